package tests

import (
	"math"
	"slices"
	"strings"
	"testing"

	"loop.example/g00926/impl"
)

func TestCodesHaveTheirValues(t *testing.T) {
	codes := []int64{
		impl.OK, impl.ErrInvalid, impl.ErrRange, impl.ErrNotFound, impl.ErrExists, impl.ErrFull,
		impl.ErrState, impl.ErrSyntax, impl.ErrFormat, impl.ErrIllegal, impl.ErrEndless,
	}
	for i, code := range codes {
		if code != int64(i) {
			t.Errorf("code %d has the value %d", i, code)
		}
	}
	if impl.MaxName != 12 {
		t.Errorf("MaxName is %d", impl.MaxName)
	}
}

func TestCodeName(t *testing.T) {
	names := []string{
		"ok", "invalid", "range", "not-found", "exists", "full",
		"state", "syntax", "format", "illegal", "endless",
	}
	for i, want := range names {
		if got := impl.CodeName(int64(i)); got != want {
			t.Errorf("CodeName(%d) = %q, want %q", i, got, want)
		}
	}
	for _, code := range []int64{-1, 11, 12, 256, 1 << 32, math.MinInt64, math.MaxInt64} {
		if got := impl.CodeName(code); got != "" {
			t.Errorf("CodeName(%d) = %q, want none", code, got)
		}
	}
}

func TestIsName(t *testing.T) {
	names := []string{"oware-6", "a", "z", "a-", "a--b", "z9", "a0", "abcdefghijkl", "n-0123456789"}
	for _, s := range names {
		if !impl.IsName(s) {
			t.Errorf("IsName(%q) = false", s)
		}
	}
	others := []string{
		"", "-", "-a", "0", "9a", "A", "aB", "a b", " a", "a ", "a_b", "a.b", "a/b", "a:b", "a`", "a{", "`a", "{a",
		"abcdefghijklm", "n-01234567890", "é", "aé", "a\x00", "\x00", "a\xff", "\xff", "a\n", "a\u0661", "\uff41",
		strings.Repeat("a", 10000),
	}
	for _, s := range others {
		if impl.IsName(s) {
			t.Errorf("IsName(%q) = true", s)
		}
	}
}

// TestIsNameOfEachByte tries each byte in both places where the rules for it differ.
func TestIsNameOfEachByte(t *testing.T) {
	for b := range 256 {
		letter := b >= 'a' && b <= 'z'
		follows := letter || b >= '0' && b <= '9' || b == '-'
		if got := impl.IsName(string([]byte{byte(b)})); got != letter {
			t.Errorf("byte %d alone: %v, want %v", b, got, letter)
		}
		if got := impl.IsName(string([]byte{'a', byte(b), 'a'})); got != follows {
			t.Errorf("byte %d behind a letter: %v, want %v", b, got, follows)
		}
	}
}

func TestDecimal(t *testing.T) {
	cases := []struct {
		n    int64
		want string
	}{
		{0, "0"}, {1, "1"}, {-1, "-1"}, {9, "9"}, {10, "10"}, {-10, "-10"}, {907, "907"}, {-12, "-12"},
		{999999999999999999, "999999999999999999"},
		{1000000000000000000, "1000000000000000000"},
		{math.MaxInt64, "9223372036854775807"},
		{math.MinInt64, "-9223372036854775808"},
	}
	for _, c := range cases {
		if got := impl.Decimal(c.n); got != c.want {
			t.Errorf("Decimal(%d) = %q, want %q", c.n, got, c.want)
		}
	}
}

func TestReadDecimal(t *testing.T) {
	numbers := []int64{
		0, 1, -1, 7, 10, -10, 12, -12, 100, 1 << 40,
		99999999999999999, 100000000000000000, -100000000000000000,
		999999999999999999, -999999999999999999,
	}
	for _, want := range numbers {
		if got, ok := impl.ReadDecimal(impl.Decimal(want)); got != want || !ok {
			t.Errorf("ReadDecimal(%d) = %d, %v", want, got, ok)
		}
	}
	if got, ok := impl.ReadDecimal("-12"); got != -12 || !ok {
		t.Errorf("ReadDecimal(-12) = %d, %v", got, ok)
	}
}

func TestReadDecimalOfOtherTexts(t *testing.T) {
	texts := []string{
		"", "-", "+", "+1", "-0", "+0", "00", "01", "-01", "007", "--1", "-+1", "1-", "1-2",
		" 1", "1 ", " ", "1 2", "1_0", "1,0", "1.0", "1e3", "0x10", "0b1", "0o7", "a", "1a", "ff", "\x00", "1\x00", "1\n", "\t1",
		"\u0661", "\uff11", "\u22121", "\xff",
		"1000000000000000000", "-1000000000000000000", "0999999999999999999", "000000000000000000",
		"9223372036854775807", "-9223372036854775808", "9223372036854775808", "-9223372036854775809",
		"18446744073709551617", strings.Repeat("1", 1000), strings.Repeat("0", 1000) + "1",
	}
	for _, s := range texts {
		if got, ok := impl.ReadDecimal(s); got != 0 || ok {
			t.Errorf("ReadDecimal(%q) = %d, %v, want 0, false", s, got, ok)
		}
	}
}

func TestSplitWords(t *testing.T) {
	cases := []struct {
		s    string
		want []string
	}{
		{"", nil}, {" ", nil}, {"    ", nil},
		{"a", []string{"a"}}, {" a", []string{"a"}}, {"a ", []string{"a"}}, {"  a  ", []string{"a"}},
		{"a b", []string{"a", "b"}}, {"b a b", []string{"b", "a", "b"}}, {"  one   two ", []string{"one", "two"}},
		{"pits=9 seeds=1", []string{"pits=9", "seeds=1"}},
		{"a\tb\nc\rd\ve\ff g", []string{"a\tb\nc\rd\ve\ff", "g"}},
		{"\t \n", []string{"\t", "\n"}},
		{"a\u00a0b\u2003c\u0085d\u3000e f", []string{"a\u00a0b\u2003c\u0085d\u3000e", "f"}},
		{"\xff \xc3 \x00", []string{"\xff", "\xc3", "\x00"}},
		{"\xe2\x80 \x83", []string{"\xe2\x80", "\x83"}},
	}
	for _, c := range cases {
		if got := impl.SplitWords(c.s); !slices.Equal(got, c.want) {
			t.Errorf("SplitWords(%q) = %q, want %q", c.s, got, c.want)
		}
	}
}

func TestSplitWordsReturnsNewMemory(t *testing.T) {
	const text = "one two"
	first := impl.SplitWords(text)
	second := impl.SplitWords(text)
	first[0] = "changed"
	_ = append(first[:1], "changed too")
	for _, got := range [][]string{second, impl.SplitWords(text)} {
		if !slices.Equal(got, []string{"one", "two"}) {
			t.Errorf("a result changed with another one: %q", got)
		}
	}
}
