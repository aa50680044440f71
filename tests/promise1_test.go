package tests

import (
	"reflect"
	"strings"
	"testing"

	"loop.example/g00926/impl"
)

// resultsOfBasics has all results of the functions of chapter 1 for a text and a number.
func resultsOfBasics(s string, n int64) []any {
	read, ok := impl.ReadDecimal(s)
	return []any{impl.CodeName(n), impl.IsName(s), impl.Decimal(n), read, ok, impl.SplitWords(s)}
}

// resultsOfRules has all results of the functions of chapter 2 for rules, a name and two numbers.
func resultsOfRules(r impl.Rules, name string, a, b int64) []any {
	standard, one := impl.StandardRules(name)
	known, two := impl.StandardName(r)
	seeds, three := impl.TotalSeeds(r)
	pit, four := impl.PitOfMove(r, a, b)
	out := []any{impl.ValidRules(r), impl.StandardNames(), standard, one, known, two, seeds, three, pit, four}
	for _, f := range pitFunctions() {
		result, code := f.call(r, a)
		out = append(out, result, code)
	}
	return out
}

func TestEqualArgumentsHaveEqualResults(t *testing.T) {
	texts := []string{"", " ", "oware", "oware-6", "-12", "a b  c", "\xff\x00", "999999999999999999", strings.Repeat("a ", 5000)}
	numbers := append([]int64{0, 1, 2, 3, 5, 10, 11}, extremes...)
	rules := invalidRules()
	for _, r := range standardTable() {
		rules = append(rules, r)
	}
	for _, s := range texts {
		for _, a := range numbers {
			if one, two := resultsOfBasics(s, a), resultsOfBasics(s, a); !reflect.DeepEqual(one, two) {
				t.Errorf("%q, %d: %v and %v", s, a, one, two)
			}
			for _, r := range rules {
				one, two := resultsOfRules(r, s, a, a), resultsOfRules(r, s, a, a)
				if !reflect.DeepEqual(one, two) {
					t.Errorf("%+v, %q, %d: %v and %v", r, s, a, one, two)
				}
			}
		}
	}
}
