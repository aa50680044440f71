package tests

import (
	"math"
	"math/rand"
	"slices"
	"strconv"
	"strings"
	"testing"

	"loop.example/g00926/impl"
)

func fieldNames() []string {
	return []string{"pits", "seeds", "stores", "skip", "relay", "feed", "again", "capture", "slam"}
}

// noFields are names that no field has, although some of them are near one.
func noFields() []string {
	return []string{
		"", " ", "color", "Pits", "PITS", "pit", "pitss", "pits ", " pits", "pits=", "pits=3", "stores=1", "take",
		"two-three", "pits\x00", "\x00", "\xff", "seeds\xff", "\u017feeds", strings.Repeat("pits", 1000),
	}
}

func bit(b bool) int64 {
	if b {
		return 1
	}
	return 0
}

// fieldValues has the values of all fields in the order of fieldNames.
func fieldValues(r impl.Rules) []int64 {
	return []int64{
		r.Pits, r.Seeds, bit(r.Stores), bit(r.Skip), bit(r.Relay), bit(r.Feed), bit(r.Again), r.Capture, r.Slam,
	}
}

// rulesOfValues is the way back from fieldValues; it is false for a flag that is neither 0 nor 1.
func rulesOfValues(v []int64) (impl.Rules, bool) {
	for _, flag := range v[2:7] {
		if flag != 0 && flag != 1 {
			return impl.Rules{}, false
		}
	}
	return impl.Rules{
		Pits: v[0], Seeds: v[1], Stores: v[2] == 1, Skip: v[3] == 1, Relay: v[4] == 1,
		Feed: v[5] == 1, Again: v[6] == 1, Capture: v[7], Slam: v[8],
	}, true
}

// wordsOfRules has the words of the text of rules in their order.
func wordsOfRules(r impl.Rules) []string {
	words := []string{
		"pits=" + strconv.FormatInt(r.Pits, 10),
		"seeds=" + strconv.FormatInt(r.Seeds, 10),
		"capture=" + []string{"none", "two-three", "cross", "even"}[r.Capture],
		"slam=" + []string{"take", "forbid", "nothing"}[r.Slam],
	}
	for i, flag := range fieldValues(r)[2:7] {
		if flag == 1 {
			words = append(words, fieldNames()[2+i])
		}
	}
	return words
}

// checkFine checks that CheckRules understands a text as these rules.
func checkFine(t *testing.T, s string, want impl.Rules) {
	t.Helper()
	if got, problems, code := impl.CheckRules(s); got != want || len(problems) != 0 || code != impl.OK {
		t.Errorf("CheckRules(%q) = %+v, %+v, %d, want %+v", s, got, problems, code, want)
	}
}

// checkProblems checks that CheckRules finds just these problems in a text.
func checkProblems(t *testing.T, s string, want ...impl.Problem) {
	t.Helper()
	if got, problems, code := impl.CheckRules(s); got != (impl.Rules{}) || !slices.Equal(problems, want) || code != impl.OK {
		t.Errorf("CheckRules(%q) = %+v, %+v, %d, want %+v", s, got, problems, code, want)
	}
}

func unknown(at int64, word string) impl.Problem {
	return impl.Problem{Kind: 1, At: at, Word: word}
}

func twice(at int64, word string) impl.Problem {
	return impl.Problem{Kind: 2, At: at, Word: word}
}

func noNumber(at int64, word string) impl.Problem {
	return impl.Problem{Kind: 3, At: at, Word: word}
}

func outside(at int64, word string) impl.Problem {
	return impl.Problem{Kind: 4, At: at, Word: word}
}

func missing(at int64, word string) impl.Problem {
	return impl.Problem{Kind: 5, At: at, Word: word}
}

func lacksStores(at int64) impl.Problem {
	return impl.Problem{Kind: 6, At: at, Word: "again"}
}

func TestConstantsOfRuleTexts(t *testing.T) {
	got := []int64{
		impl.MaxRuleText, impl.ProblemUnknown, impl.ProblemTwice, impl.ProblemNumber,
		impl.ProblemRange, impl.ProblemMissing, impl.ProblemStores,
	}
	if want := []int64{200, 1, 2, 3, 4, 5, 6}; !slices.Equal(got, want) {
		t.Errorf("constants are %v, want %v", got, want)
	}
}

func TestNamesOfSlams(t *testing.T) {
	for i, want := range []string{"take", "forbid", "nothing"} {
		if got := impl.SlamName(int64(i)); got != want {
			t.Errorf("SlamName(%d) = %q, want %q", i, got, want)
		}
		if got, code := impl.SlamNamed(want); got != int64(i) || code != impl.OK {
			t.Errorf("SlamNamed(%q) = %d, %d, want %d", want, got, code, i)
		}
	}
	for _, kind := range append([]int64{3, 4, 256, 1<<32 + 1}, extremes...) {
		if got := impl.SlamName(kind); got != "" {
			t.Errorf("SlamName(%d) = %q, want none", kind, got)
		}
	}
	others := []string{
		"", " ", "0", "Take", "TAKE", "tak", "takes", "take ", " take", "slam=take", "none", "two-three", "cross", "even",
		"take\x00", "\x00", "\xff", "forbid\xff", "nothing\n", strings.Repeat("take", 1000),
	}
	for _, name := range others {
		if got, code := impl.SlamNamed(name); got != 0 || code != impl.ErrNotFound {
			t.Errorf("SlamNamed(%q) = %d, %d, want ErrNotFound", name, got, code)
		}
	}
}

func TestFieldNames(t *testing.T) {
	first := impl.FieldNames()
	second := impl.FieldNames()
	if !slices.Equal(first, fieldNames()) {
		t.Fatalf("FieldNames() = %q", first)
	}
	first[0] = "changed"
	_ = append(first[:1], "changed too")
	if !slices.Equal(second, fieldNames()) || !slices.Equal(impl.FieldNames(), fieldNames()) {
		t.Error("a result of FieldNames changed with another one")
	}
}

func TestFieldOf(t *testing.T) {
	eachRules(func(r impl.Rules) {
		for i, want := range fieldValues(r) {
			if got, code := impl.FieldOf(r, fieldNames()[i]); got != want || code != impl.OK {
				t.Errorf("FieldOf(%+v, %q) = %d, %d, want %d", r, fieldNames()[i], got, code, want)
			}
		}
	})
	for _, r := range standardTable() {
		for _, name := range noFields() {
			if got, code := impl.FieldOf(r, name); got != 0 || code != impl.ErrNotFound {
				t.Errorf("FieldOf(%+v, %q) = %d, %d, want ErrNotFound", r, name, got, code)
			}
		}
	}
	for _, r := range invalidRules() {
		for _, name := range append(noFields(), fieldNames()...) {
			if got, code := impl.FieldOf(r, name); got != 0 || code != impl.ErrInvalid {
				t.Errorf("FieldOf(%+v, %q) = %d, %d, want ErrInvalid", r, name, got, code)
			}
		}
	}
}

// TestSetField tries each limit of each field and one beyond it, in all rules.
func TestSetField(t *testing.T) {
	values := []int64{math.MinInt64, -1, 0, 1, 2, 3, 4, 6, 7, 8, 9, 256, 1<<32 + 1, math.MaxInt64}
	eachRules(func(r impl.Rules) {
		for i, name := range fieldNames() {
			for _, value := range values {
				changed := fieldValues(r)
				changed[i] = value
				want, ok := rulesOfValues(changed)
				wantCode := int64(impl.OK)
				if !ok || !impl.ValidRules(want) {
					want, wantCode = impl.Rules{}, impl.ErrRange
				}
				if got, code := impl.SetField(r, name, value); got != want || code != wantCode {
					t.Fatalf("SetField(%+v, %q, %d) = %+v, %d, want %+v, %d", r, name, value, got, code, want, wantCode)
				}
			}
		}
	})
}

func TestSetFieldOfStoresAndAgain(t *testing.T) {
	plain := impl.Rules{Pits: 3, Seeds: 2}
	stores := impl.Rules{Pits: 3, Seeds: 2, Stores: true}
	both := impl.Rules{Pits: 3, Seeds: 2, Stores: true, Again: true}
	cases := []struct {
		r     impl.Rules
		name  string
		value int64
		want  impl.Rules
		code  int64
	}{
		{plain, "stores", 1, stores, impl.OK},
		{plain, "again", 1, impl.Rules{}, impl.ErrRange},
		{plain, "again", 0, plain, impl.OK},
		{stores, "again", 1, both, impl.OK},
		{stores, "again", 2, impl.Rules{}, impl.ErrRange},
		{both, "stores", 0, impl.Rules{}, impl.ErrRange},
		{both, "stores", 1, both, impl.OK},
		{both, "again", 0, stores, impl.OK},
	}
	for _, c := range cases {
		if got, code := impl.SetField(c.r, c.name, c.value); got != c.want || code != c.code {
			t.Errorf("SetField(%+v, %q, %d) = %+v, %d, want %+v, %d", c.r, c.name, c.value, got, code, c.want, c.code)
		}
	}
}

func TestErrorsOfSetField(t *testing.T) {
	values := []int64{math.MinInt64, -1, 0, 1, 2, 3, 100, math.MaxInt64}
	for _, value := range values {
		for _, r := range standardTable() {
			for _, name := range noFields() {
				if got, code := impl.SetField(r, name, value); got != (impl.Rules{}) || code != impl.ErrNotFound {
					t.Errorf("SetField(%+v, %q, %d) = %+v, %d, want ErrNotFound", r, name, value, got, code)
				}
			}
		}
		for _, r := range invalidRules() {
			for _, name := range append(noFields(), fieldNames()...) {
				if got, code := impl.SetField(r, name, value); got != (impl.Rules{}) || code != impl.ErrInvalid {
					t.Errorf("SetField(%+v, %q, %d) = %+v, %d, want ErrInvalid", r, name, value, got, code)
				}
			}
		}
	}
}

func TestRulesText(t *testing.T) {
	texts := map[string]string{
		"kalah": "pits=6 seeds=4 capture=cross slam=take stores again",
		"mini":  "pits=3 seeds=2 capture=two-three slam=take feed",
		"oware": "pits=6 seeds=4 capture=two-three slam=nothing skip feed",
		"relay": "pits=4 seeds=2 capture=cross slam=take relay",
	}
	for name, want := range texts {
		if got := impl.RulesText(standardTable()[name]); got != want {
			t.Errorf("the text of %s is %q, want %q", name, got, want)
		}
	}
	all := impl.Rules{Pits: 8, Seeds: 6, Stores: true, Skip: true, Relay: true, Feed: true, Again: true, Capture: 3, Slam: 1}
	if got := impl.RulesText(all); got != "pits=8 seeds=6 capture=even slam=forbid stores skip relay feed again" {
		t.Errorf("the text of %+v is %q", all, got)
	}
	if got := impl.RulesText(impl.Rules{Pits: 2, Seeds: 1}); got != "pits=2 seeds=1 capture=none slam=take" {
		t.Errorf("the text of the least rules is %q", got)
	}
	for _, r := range invalidRules() {
		if got := impl.RulesText(r); got != "" {
			t.Errorf("RulesText(%+v) = %q, want none", r, got)
		}
	}
}

// TestRulesAreReadBack checks the text of all rules: promise 3.
func TestRulesAreReadBack(t *testing.T) {
	eachRules(func(r impl.Rules) {
		s := strings.Join(wordsOfRules(r), " ")
		if got := impl.RulesText(r); got != s {
			t.Fatalf("RulesText(%+v) = %q, want %q", r, got, s)
		}
		if got, ok := impl.ReadRules(s); got != r || !ok {
			t.Fatalf("ReadRules(%q) = %+v, %v, want %+v", s, got, ok, r)
		}
		checkFine(t, s, r)
	})
}

// TestReadRulesIsStrict checks that only the text itself is read; CheckRules understands each of these texts.
func TestReadRulesIsStrict(t *testing.T) {
	kalah := standardTable()["kalah"]
	texts := []string{
		" pits=6 seeds=4 capture=cross slam=take stores again",
		"pits=6 seeds=4 capture=cross slam=take stores again ",
		"pits=6  seeds=4 capture=cross slam=take stores again",
		"pits=6 seeds=4 capture=cross slam=take stores  again",
		"seeds=4 pits=6 capture=cross slam=take stores again",
		"pits=6 seeds=4 slam=take capture=cross stores again",
		"pits=6 seeds=4 capture=cross slam=take again stores",
		"again stores slam=take capture=cross seeds=4 pits=6",
		"pits=6 seeds=4 capture=cross stores again",
		"pits=6 seeds=4 stores capture=cross slam=take again",
	}
	for _, s := range texts {
		checkFine(t, s, kalah)
		if got, ok := impl.ReadRules(s); got != (impl.Rules{}) || ok {
			t.Errorf("ReadRules(%q) = %+v, %v, want false", s, got, ok)
		}
	}
}

func TestReadRulesOfOtherTexts(t *testing.T) {
	const good = "pits=6 seeds=4 capture=cross slam=take stores again"
	texts := []string{
		"", " ", "kalah", "pits=6 seeds=4", "pits=6 seeds=4 slam=take", "pits=6 seeds=4 capture=none",
		"pits=1 seeds=4 capture=cross slam=take", "pits=9 seeds=4 capture=cross slam=take",
		"pits=6 seeds=0 capture=cross slam=take", "pits=6 seeds=7 capture=cross slam=take",
		"pits=06 seeds=4 capture=cross slam=take", "pits=6 seeds=+4 capture=cross slam=take",
		"pits=6 seeds=4 capture= slam=take", "pits=6 seeds=4 capture=cross slam=", "pits=6 seeds=4 capture=take slam=none",
		"pits=6 seeds=4 capture=cross slam=take again", "pits=6 seeds=4 capture=cross slam=take stores again again",
		good + "\n", "\n" + good, good + "\x00", good + "\xff", "\xff" + good, strings.ToUpper(good),
		strings.ReplaceAll(good, " ", "\t"), strings.ReplaceAll(good, " ", "\u00a0"), strings.ReplaceAll(good, " ", ","),
		good + " " + good, good[:len(good)-1], good[1:],
		good + strings.Repeat(" ", 200-len(good)), good + strings.Repeat(" ", 201-len(good)), strings.Repeat(good, 1000),
	}
	for _, s := range texts {
		if got, ok := impl.ReadRules(s); got != (impl.Rules{}) || ok {
			t.Errorf("ReadRules(%q) = %+v, %v, want false", s, got, ok)
		}
	}
}

// permute calls do with all orders of words.
func permute(words []string, from int, do func(words []string)) {
	if from == len(words) {
		do(words)
		return
	}
	for i := from; i < len(words); i++ {
		words[from], words[i] = words[i], words[from]
		permute(words, from+1, do)
		words[from], words[i] = words[i], words[from]
	}
}

func TestWordsInAnyOrder(t *testing.T) {
	r := impl.Rules{Pits: 5, Seeds: 3, Stores: true, Relay: true, Again: true, Capture: 3, Slam: 1}
	permute(wordsOfRules(r), 0, func(words []string) {
		checkFine(t, strings.Join(words, " "), r)
	})
}

// TestOrderAndBlanksOfAllRules turns the words around and puts blanks between them: promise 3.
func TestOrderAndBlanksOfAllRules(t *testing.T) {
	random := rand.New(rand.NewSource(3))
	eachRules(func(r impl.Rules) {
		words := wordsOfRules(r)
		random.Shuffle(len(words), func(i, j int) { words[i], words[j] = words[j], words[i] })
		s := strings.Repeat(" ", random.Intn(4))
		for _, word := range words {
			s += word + strings.Repeat(" ", 1+random.Intn(4))
		}
		checkFine(t, s, r)
		checkFine(t, strings.TrimRight(s, " "), r)
	})
}

func TestWordsThatMayBeMissing(t *testing.T) {
	eachRules(func(r impl.Rules) {
		words := slices.DeleteFunc(wordsOfRules(r), func(word string) bool {
			return word == "capture=none" || word == "slam=take"
		})
		checkFine(t, strings.Join(words, " "), r)
	})
	checkFine(t, "pits=2 seeds=1", impl.Rules{Pits: 2, Seeds: 1})
	checkFine(t, "pits=8 seeds=6", impl.Rules{Pits: 8, Seeds: 6})
	checkFine(t, "pits=3 slam=nothing seeds=2", impl.Rules{Pits: 3, Seeds: 2, Slam: 2})
	checkFine(t, "capture=even pits=3 seeds=2", impl.Rules{Pits: 3, Seeds: 2, Capture: 3})
}

func TestLengthsOfRuleTexts(t *testing.T) {
	const good = "pits=3 seeds=2 feed"
	want := impl.Rules{Pits: 3, Seeds: 2, Feed: true}
	space := strings.Repeat(" ", 200-len(good))
	checkFine(t, good+space, want)
	checkFine(t, space+good, want)
	checkFine(t, "pits=3"+space+" seeds=2 feed", want)
	checkProblems(t, strings.Repeat(" ", 200), missing(200, "pits"), missing(200, "seeds"))
	word := strings.Repeat("x", 200)
	checkProblems(t, word, unknown(0, word), missing(200, "pits"), missing(200, "seeds"))
	long := "pits=" + strings.Repeat("1", 195)
	checkProblems(t, long, noNumber(0, long), missing(200, "seeds"))
	texts := []string{
		good + space + " ", " " + space + good, "pits=3" + space + "  seeds=2 feed", word + "x", long + "1",
		strings.Repeat(" ", 201), strings.Repeat("\xff", 201), strings.Repeat("é", 101), strings.Repeat("skip ", 100000),
	}
	for _, s := range texts {
		if got, problems, code := impl.CheckRules(s); got != (impl.Rules{}) || len(problems) != 0 || code != impl.ErrFull {
			t.Errorf("CheckRules of %d bytes = %+v, %+v, %d, want ErrFull", len(s), got, problems, code)
		}
		if got, ok := impl.ReadRules(s); got != (impl.Rules{}) || ok {
			t.Errorf("ReadRules of %d bytes = %+v, %v", len(s), got, ok)
		}
	}
}

func TestEmptyRuleTexts(t *testing.T) {
	checkProblems(t, "", missing(0, "pits"), missing(0, "seeds"))
	checkProblems(t, " ", missing(1, "pits"), missing(1, "seeds"))
	checkProblems(t, "     ", missing(5, "pits"), missing(5, "seeds"))
	checkProblems(t, "pits=3", missing(6, "seeds"))
	checkProblems(t, " seeds=2  ", missing(10, "pits"))
}

func TestUnknownWords(t *testing.T) {
	words := []string{
		"blue", "pits", "seeds", "capture", "slam", "pit=3", "pitss=3", "Pits=3", "PITS=3", "=", "=3", "=pits", "pits:3",
		"stores=", "stores=1", "skip=1", "relay=0", "feed=true", "again=1", "Stores", "store", "storess", "Skip", "none", "take",
		"skip,feed", "kalah", "3", "-", "\x00", "skip\x00", "\xff", "\xc3", "skip\xff", "\xffskip", "pits\xff=3", "\xef\xbb\xbfpits=3",
		"\t", "\tskip", "skip\t", "skip\tfeed", "skip\n", "\nskip", "skip\u00a0feed", "\u017fkip", "é", "\u2003",
	}
	for _, word := range words {
		checkProblems(t, "pits=3 "+word+" seeds=2", unknown(7, word))
		checkProblems(t, word+" pits=3 seeds=2", unknown(0, word))
		checkProblems(t, "pits=3 seeds=2 "+word+" "+word, unknown(15, word), unknown(16+int64(len(word)), word))
	}
	checkProblems(t, "pits seeds", unknown(0, "pits"), unknown(5, "seeds"), missing(10, "pits"), missing(10, "seeds"))
}

func TestWordsGivenTwice(t *testing.T) {
	all := wordsOfRules(impl.Rules{Pits: 3, Seeds: 2, Stores: true, Skip: true, Relay: true, Feed: true, Again: true})
	good := strings.Join(all, " ")
	end := int64(len(good)) + 1
	for _, word := range append([]string{"pits=4", "seeds=6", "capture=even", "slam=forbid"}, all...) {
		checkProblems(t, good+" "+word, twice(end, word))
		next := end + int64(len(word)) + 1
		checkProblems(t, good+" "+word+" "+word, twice(end, word), twice(next, word))
	}
	// A field that is given twice is told as that, whatever its value is now.
	for _, word := range []string{"pits=", "pits=x", "pits=9", "seeds=\xff", "seeds=0", "capture=", "capture=x", "slam=", "slam=none"} {
		checkProblems(t, good+" "+word, twice(end, word))
	}
	checkProblems(t, "pits=x pits=3 seeds=2", noNumber(0, "pits=x"), twice(7, "pits=3"))
	checkProblems(t, "pits=9 pits=3 seeds=2", outside(0, "pits=9"), twice(7, "pits=3"))
	checkProblems(t, "pits=3 seeds=7 seeds= seeds=2", outside(7, "seeds=7"), twice(15, "seeds="), twice(22, "seeds=2"))
	checkProblems(t, "pits=3 seeds=2 slam=x slam=take", outside(15, "slam=x"), twice(22, "slam=take"))
	// A word that is not known gives no field.
	checkProblems(t, "pits pits=3 seeds=2", unknown(0, "pits"))
	checkProblems(t, "skip=1 skip pits=3 seeds=2", unknown(0, "skip=1"))
}

func TestNumbersInRuleTexts(t *testing.T) {
	texts := []string{
		"", "x", "-", "+3", "03", "-0", "3.0", "3x", "x3", "three", "0x3", "1_0", "=3", "=", "3=", "3=3", "3,", "\t3", "3\t", "3\n",
		"\x00", "3\x00", "\xff", "3\xff", "\u0663", "\uff13", "1000000000000000000", "-1000000000000000000",
		"9223372036854775807", "-9223372036854775808", "9223372036854775808", "18446744073709551619", strings.Repeat("9", 100),
	}
	for _, text := range texts {
		checkProblems(t, "pits="+text+" seeds=2", noNumber(0, "pits="+text))
		checkProblems(t, "pits=3 seeds="+text, noNumber(7, "seeds="+text))
	}
}

// TestLimitsInRuleTexts checks the least and the greatest numbers, and one beyond them.
func TestLimitsInRuleTexts(t *testing.T) {
	for pits := int64(2); pits <= 8; pits++ {
		for seeds := int64(1); seeds <= 6; seeds++ {
			s := "pits=" + strconv.FormatInt(pits, 10) + " seeds=" + strconv.FormatInt(seeds, 10)
			checkFine(t, s, impl.Rules{Pits: pits, Seeds: seeds})
		}
	}
	for _, n := range []string{"-999999999999999999", "-3", "-1", "0", "1", "9", "10", "258", "4294967299", "999999999999999999"} {
		checkProblems(t, "pits="+n+" seeds=2", outside(0, "pits="+n))
	}
	for _, n := range []string{"-999999999999999999", "-2", "-1", "0", "7", "8", "257", "4294967297", "999999999999999999"} {
		checkProblems(t, "pits=3 seeds="+n, outside(7, "seeds="+n))
	}
}

func TestKindsInRuleTexts(t *testing.T) {
	others := []string{"", "0", "1", "x", "=", "None", "none=", "=none", "two-thre", "two-threes", "two_three", "evens", "cross,", "\x00", "\xff", "even\xff", "\teven", "even\t"}
	for _, text := range append([]string{"take", "forbid", "nothing"}, others...) {
		checkProblems(t, "pits=3 seeds=2 capture="+text, outside(15, "capture="+text))
	}
	others = append(others, "Take", "takes", "tak", "take=", "forbid\xff", "nothing\n")
	for _, text := range append([]string{"none", "two-three", "cross", "even"}, others...) {
		checkProblems(t, "slam="+text+" pits=3 seeds=2", outside(0, "slam="+text))
	}
}

func TestAgainNeedsStores(t *testing.T) {
	checkFine(t, "again pits=3 seeds=2 stores", impl.Rules{Pits: 3, Seeds: 2, Stores: true, Again: true})
	checkProblems(t, "pits=3 again seeds=2", lacksStores(7))
	checkProblems(t, "again pits=3 seeds=2 again", twice(21, "again"), lacksStores(0))
	checkProblems(t, "  again again", twice(8, "again"), missing(13, "pits"), missing(13, "seeds"), lacksStores(2))
	checkProblems(t, "again", missing(5, "pits"), missing(5, "seeds"), lacksStores(0))
	checkProblems(t, "pits=3 seeds=2 again stores=1", unknown(21, "stores=1"), lacksStores(15))
	checkProblems(t, "pits=3 seeds=2 again=1", unknown(15, "again=1"))
	checkProblems(t, "pits=3 seeds=2 againx again", unknown(15, "againx"), lacksStores(22))
	checkProblems(t, "pits=3 seeds=2 stores stores again", twice(22, "stores"))
}

func TestSeveralProblems(t *testing.T) {
	checkProblems(t, "pits=9 seeds=1", outside(0, "pits=9"))
	checkProblems(t, "blue skip=1 skip skip seeds=x again",
		unknown(0, "blue"), unknown(5, "skip=1"), twice(17, "skip"), noNumber(22, "seeds=x"), missing(35, "pits"), lacksStores(30))
	checkProblems(t, "  seeds=7   seeds=7 \xff feed feed capture=x again ",
		outside(2, "seeds=7"), twice(12, "seeds=7"), unknown(20, "\xff"), twice(27, "feed"),
		outside(32, "capture=x"), missing(48, "pits"), lacksStores(42))
	checkProblems(t, "slam=x slam=x capture= pits=-1 pits= seeds=",
		outside(0, "slam=x"), twice(7, "slam=x"), outside(14, "capture="), outside(23, "pits=-1"),
		twice(31, "pits="), noNumber(37, "seeds="))
	// Words that begin or end another word are found where they are.
	checkProblems(t, "xskip skipx skip x", unknown(0, "xskip"), unknown(6, "skipx"), unknown(17, "x"), missing(18, "pits"), missing(18, "seeds"))
	checkProblems(t, "aa a aa  a", unknown(0, "aa"), unknown(3, "a"), unknown(5, "aa"), unknown(9, "a"), missing(10, "pits"), missing(10, "seeds"))
}

// expectedProblem tells the kind of the problem of a word, 0 if it has none; given has the fields before it.
func expectedProblem(word string, given map[string]bool) int64 {
	field, text, assigned := word, "", false
	if i := strings.IndexByte(word, '='); i >= 0 {
		field, text, assigned = word[:i], word[i+1:], true
	}
	i := slices.Index(fieldNames(), field)
	if i < 0 || assigned != (i < 2 || i > 6) {
		return impl.ProblemUnknown
	}
	if given[field] {
		return impl.ProblemTwice
	}
	given[field] = true
	number, isNumber := impl.ReadDecimal(text)
	switch {
	case i < 2 && !isNumber:
		return impl.ProblemNumber
	case i == 0 && (number < 2 || number > 8), i == 1 && (number < 1 || number > 6):
		return impl.ProblemRange
	case i == 7 && !slices.Contains([]string{"none", "two-three", "cross", "even"}, text):
		return impl.ProblemRange
	case i == 8 && !slices.Contains([]string{"take", "forbid", "nothing"}, text):
		return impl.ProblemRange
	}
	return 0
}

// expectedProblems goes through a text byte by byte.
func expectedProblems(s string) []impl.Problem {
	var out []impl.Problem
	given := map[string]bool{}
	again := int64(-1)
	start := 0
	for i := 0; i <= len(s); i++ {
		if i < len(s) && s[i] != ' ' {
			continue
		}
		if word := s[start:i]; word != "" {
			if kind := expectedProblem(word, given); kind != 0 {
				out = append(out, impl.Problem{Kind: kind, At: int64(start), Word: word})
			}
			if word == "again" && again < 0 {
				again = int64(start)
			}
		}
		start = i + 1
	}
	for _, name := range []string{"pits", "seeds"} {
		if !given[name] {
			out = append(out, missing(int64(len(s)), name))
		}
	}
	if again >= 0 && !given["stores"] {
		out = append(out, lacksStores(again))
	}
	return out
}

// checkText compares CheckRules with what is expected, for a text of at most 200 bytes.
func checkText(t *testing.T, s string) {
	t.Helper()
	want := expectedProblems(s)
	if len(want) > 0 {
		checkProblems(t, s, want...)
		return
	}
	r, problems, code := impl.CheckRules(s)
	if code != impl.OK || len(problems) != 0 {
		t.Errorf("CheckRules(%q) = %+v, %+v, %d, want no problems", s, r, problems, code)
	}
	read := wordsOfRules(r)
	words := impl.SplitWords(s)
	for _, defaults := range []struct{ field, word string }{{"capture=", "capture=none"}, {"slam=", "slam=take"}} {
		if !strings.Contains(s, defaults.field) {
			words = append(words, defaults.word)
		}
	}
	slices.Sort(read)
	slices.Sort(words)
	if !impl.ValidRules(r) || !slices.Equal(read, words) {
		t.Errorf("CheckRules(%q) = %+v", s, r)
	}
}

// TestManyTexts puts words with and without problems together: promise 3.
func TestManyTexts(t *testing.T) {
	words := []string{
		"pits=3", "pits=8", "pits=9", "pits=x", "pits", "seeds=2", "seeds=6", "seeds=7", "seeds=", "stores", "stores", "skip", "relay",
		"feed", "again", "again", "again=1", "capture=even", "capture=none", "capture=take", "slam=nothing", "slam=x", "blue", "\xff", "",
	}
	random := rand.New(rand.NewSource(5))
	for range 30000 {
		s := strings.Repeat(" ", random.Intn(3))
		for range random.Intn(10) {
			s += words[random.Intn(len(words))] + strings.Repeat(" ", 1+random.Intn(2))
		}
		if random.Intn(2) == 0 {
			s = strings.TrimRight(s, " ")
		}
		checkText(t, s)
	}
}

// TestEachByteInARuleText changes each byte of a text to each other one.
func TestEachByteInARuleText(t *testing.T) {
	const s = "pits=3 seeds=2 capture=cross slam=forbid stores again"
	for i := range len(s) {
		for b := range 256 {
			checkText(t, s[:i]+string([]byte{byte(b)})+s[i+1:])
			checkText(t, s[:i]+string([]byte{byte(b)})+s[i:])
		}
		checkText(t, s[:i]+s[i+1:])
		checkText(t, s[:i])
		checkText(t, s[i:])
	}
}

func TestProblemsAreNewMemory(t *testing.T) {
	const s = "blue skip skip"
	want := expectedProblems(s)
	_, first, _ := impl.CheckRules(s)
	_, second, _ := impl.CheckRules(s)
	for i := range first {
		first[i] = impl.Problem{Kind: 9, At: 9, Word: "changed"}
	}
	_ = append(first[:1], impl.Problem{})
	if !slices.Equal(second, want) {
		t.Errorf("a result of CheckRules changed with another one: %+v", second)
	}
	checkProblems(t, s, want...)
}

func TestProblemText(t *testing.T) {
	_, problems, _ := impl.CheckRules("pits=9 seeds=1")
	if len(problems) != 1 || impl.ProblemText(problems[0]) != "0: pits=9: not allowed" {
		t.Errorf("the problems of the example are %+v", problems)
	}
	texts := []string{"unknown word", "given twice", "not a number", "not allowed", "missing", "needs stores"}
	ats := map[int64]string{
		0: "0", 7: "7", 200: "200", -1: "-1", math.MaxInt64: "9223372036854775807", math.MinInt64: "-9223372036854775808",
	}
	for i, text := range texts {
		for at, number := range ats {
			for _, word := range []string{"", " ", "again", "pits=9", "a: b", "\xff\x00", "é", strings.Repeat("x", 1000)} {
				p := impl.Problem{Kind: int64(i) + 1, At: at, Word: word}
				if got, want := impl.ProblemText(p), number+": "+word+": "+text; got != want {
					t.Errorf("ProblemText(%+v) = %q, want %q", p, got, want)
				}
			}
		}
	}
	for _, kind := range append([]int64{0, 7, 8, 1<<32 + 1}, extremes...) {
		p := impl.Problem{Kind: kind, At: 3, Word: "again"}
		if got := impl.ProblemText(p); got != "" {
			t.Errorf("ProblemText(%+v) = %q, want none", p, got)
		}
	}
	if got := impl.ProblemText(impl.Problem{}); got != "" {
		t.Errorf("the text of no problem is %q", got)
	}
}

// expectedFields has the names of the fields in which rules differ.
func expectedFields(a, b impl.Rules) []string {
	var out []string
	other := fieldValues(b)
	for i, value := range fieldValues(a) {
		if value != other[i] {
			out = append(out, fieldNames()[i])
		}
	}
	return out
}

func TestDifferentFields(t *testing.T) {
	kalah, oware := standardTable()["kalah"], standardTable()["oware"]
	want := []string{"stores", "skip", "feed", "again", "capture", "slam"}
	if got, code := impl.DifferentFields(kalah, oware); !slices.Equal(got, want) || code != impl.OK {
		t.Errorf("kalah and oware differ in %q, %d, want %q", got, code, want)
	}
	all := impl.Rules{Pits: 5, Seeds: 3, Stores: true, Skip: true, Relay: true, Feed: true, Again: true, Capture: 3, Slam: 1}
	none := impl.Rules{Pits: 2, Seeds: 1}
	if got, code := impl.DifferentFields(all, none); !slices.Equal(got, fieldNames()) || code != impl.OK {
		t.Errorf("DifferentFields(%+v, %+v) = %q, %d", all, none, got, code)
	}
	eachRules(func(r impl.Rules) {
		for _, other := range []impl.Rules{r, all, none, kalah, oware} {
			one, code := impl.DifferentFields(r, other)
			two, back := impl.DifferentFields(other, r)
			want := expectedFields(r, other)
			if code != impl.OK || back != impl.OK || !slices.Equal(one, want) || !slices.Equal(two, want) {
				t.Errorf("DifferentFields(%+v, %+v) = %q, %d and %q, %d, want %q", r, other, one, code, two, back, want)
			}
		}
	})
}

func TestErrorsOfDifferentFields(t *testing.T) {
	good := standardTable()["mini"]
	for _, bad := range invalidRules() {
		for _, pair := range [][2]impl.Rules{{bad, good}, {good, bad}, {bad, bad}} {
			if got, code := impl.DifferentFields(pair[0], pair[1]); len(got) != 0 || code != impl.ErrInvalid {
				t.Errorf("DifferentFields(%+v, %+v) = %q, %d, want ErrInvalid", pair[0], pair[1], got, code)
			}
		}
	}
}

func TestNearestGame(t *testing.T) {
	for name, r := range standardTable() {
		if got, n, code := impl.NearestGame(r); got != name || n != 0 || code != impl.OK {
			t.Errorf("NearestGame(%s) = %q, %d, %d", name, got, n, code)
		}
	}
	cases := []struct {
		r    impl.Rules
		name string
		n    int64
	}{
		{impl.Rules{Pits: 3, Seeds: 2, Stores: true, Feed: true, Capture: 1}, "mini", 1},
		// As far from relay as from mini, which is the first one.
		{impl.Rules{Pits: 2, Seeds: 1}, "mini", 4},
		// As far from oware as from kalah, which is the first one.
		{impl.Rules{Pits: 6, Seeds: 4, Stores: true, Skip: true, Again: true, Capture: 1, Slam: 2}, "kalah", 3},
		{impl.Rules{Pits: 8, Seeds: 2, Relay: true, Capture: 3}, "relay", 2},
		{impl.Rules{Pits: 6, Seeds: 5, Skip: true, Feed: true, Capture: 1, Slam: 1}, "oware", 2},
	}
	for _, c := range cases {
		if got, n, code := impl.NearestGame(c.r); got != c.name || n != c.n || code != impl.OK {
			t.Errorf("NearestGame(%+v) = %q, %d, %d, want %q, %d", c.r, got, n, code, c.name, c.n)
		}
	}
	for _, r := range invalidRules() {
		if got, n, code := impl.NearestGame(r); got != "" || n != 0 || code != impl.ErrInvalid {
			t.Errorf("NearestGame(%+v) = %q, %d, %d, want ErrInvalid", r, got, n, code)
		}
	}
}

func TestNearestGameOfAllRules(t *testing.T) {
	eachRules(func(r impl.Rules) {
		want, fewest := "", 10
		for _, name := range []string{"kalah", "mini", "oware", "relay"} {
			if n := len(expectedFields(r, standardTable()[name])); n < fewest {
				want, fewest = name, n
			}
		}
		if got, n, code := impl.NearestGame(r); got != want || n != int64(fewest) || code != impl.OK {
			t.Errorf("NearestGame(%+v) = %q, %d, %d, want %q, %d", r, got, n, code, want, fewest)
		}
	})
}
