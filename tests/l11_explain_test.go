package tests

import (
	"fmt"
	"math"
	"math/rand"
	"regexp"
	"slices"
	"strconv"
	"strings"
	"testing"

	"loop.example/g00926/impl"
)

func factOf(kind, place, count int64) impl.Fact {
	return impl.Fact{Kind: kind, Place: place, Count: count}
}

func TestKindsOfFacts(t *testing.T) {
	kinds := []int64{impl.FactTake, impl.FactSow, impl.FactCapture, impl.FactSpare, impl.FactAgain, impl.FactTurn}
	if !slices.Equal(kinds, []int64{1, 2, 3, 4, 5, 6}) || impl.MaxFacts != 3000 {
		t.Errorf("the kinds of facts are %v, MaxFacts is %d", kinds, impl.MaxFacts)
	}
}

// textOfFact is what the chapter says of the text of a fact; empty if it cannot be written.
func textOfFact(f impl.Fact) string {
	place := strconv.FormatInt(f.Place, 10)
	if f.Kind == 2 && f.Place == -1 {
		place = "store"
	}
	switch {
	case f.Kind == 5 && f.Place == 0 && f.Count == 0:
		return "again"
	case f.Kind == 6 && f.Place == 0 && f.Count == 0:
		return "turn"
	case f.Kind < 1 || f.Kind > 4 || f.Count <= 0 || f.Count > 96 || f.Place > 15 || f.Place < 0 && place != "store":
		return ""
	case f.Kind == 2:
		return fmt.Sprintf("sow %d into %s", f.Count, place)
	}
	return fmt.Sprintf("%s %d from %s", []string{1: "take", 3: "capture", 4: "spare"}[f.Kind], f.Count, place)
}

// numbersAround has numbers at the limits of facts, and others.
func numbersAround() []int64 {
	numbers := append([]int64{-97, -2, 0, 1, 2, 7, 8, 95, 96, 97, 98, 256, 257, 1<<32 + 1}, extremes...)
	for n := int64(13); n <= 19; n++ {
		numbers = append(numbers, n)
	}
	return numbers
}

func TestFactText(t *testing.T) {
	written := map[string]impl.Fact{}
	kinds := append([]int64{0, 1, 2, 3, 4, 5, 6, 7, 8}, numbersAround()...)
	for _, kind := range kinds {
		for _, place := range numbersAround() {
			for _, count := range numbersAround() {
				f := factOf(kind, place, count)
				want := textOfFact(f)
				if got := impl.FactText(f); got != want {
					t.Errorf("FactText(%+v) = %q, want %q", f, got, want)
				}
				if other, twice := written[want]; want != "" && twice && other != f {
					t.Errorf("%+v and %+v have the text %q", f, other, want)
				}
				written[want] = f
			}
		}
	}
	if len(written) < 150 {
		t.Errorf("only %d texts were written", len(written))
	}
}

func TestFactTextByHand(t *testing.T) {
	for text, f := range map[string]impl.Fact{
		"take 2 from 0": factOf(impl.FactTake, 0, 2), "take 96 from 15": factOf(impl.FactTake, 15, 96),
		"sow 1 into 1": factOf(impl.FactSow, 1, 1), "sow 3 into store": factOf(impl.FactSow, -1, 3), "sow 96 into 15": factOf(impl.FactSow, 15, 96),
		"capture 3 from 4": factOf(impl.FactCapture, 4, 3), "capture 1 from 15": factOf(impl.FactCapture, 15, 1),
		"spare 5 from 5": factOf(impl.FactSpare, 5, 5), "spare 96 from 0": factOf(impl.FactSpare, 0, 96),
		"again": factOf(impl.FactAgain, 0, 0), "turn": factOf(impl.FactTurn, 0, 0),
	} {
		if got := impl.FactText(f); got != text {
			t.Errorf("FactText(%+v) = %q, want %q", f, got, text)
		}
		if got, ok := impl.ReadFact(text); got != f || !ok {
			t.Errorf("ReadFact(%q) = %+v, %v, want %+v", text, got, ok, f)
		}
	}
	for _, f := range []impl.Fact{
		{}, factOf(0, 1, 1), factOf(7, 1, 1), factOf(-1, 1, 1), factOf(1, -1, 1), factOf(3, -1, 1), factOf(4, -1, 1), factOf(2, -2, 1), factOf(2, 16, 1),
		factOf(1, 16, 1), factOf(1, 0, 0), factOf(2, 0, 0), factOf(2, -1, 0), factOf(3, 0, 97), factOf(2, 0, 97), factOf(2, 0, -1), factOf(5, 0, 1),
		factOf(5, 1, 0), factOf(5, -1, 0), factOf(6, 0, 1), factOf(6, 1, 0), factOf(6, -1, 0), factOf(6, 0, -1),
	} {
		if got := impl.FactText(f); got != "" {
			t.Errorf("FactText(%+v) = %q", f, got)
		}
	}
}

// factForm has the texts of facts, with a place and a number of seeds that may be too great.
var factForm = regexp.MustCompile(`\A(?:again|turn|(?:(take|capture|spare) ([1-9][0-9]?) from ([0-9]|1[0-5]))|(?:sow ([1-9][0-9]?) into ([0-9]|1[0-5]|store)))\z`)

func checkReadFact(t *testing.T, s string) bool {
	t.Helper()
	parts := factForm.FindStringSubmatch(s)
	want := parts != nil
	for _, count := range slices.Concat(parts, make([]string, 5))[1:] {
		want = want && count != "97" && count != "98" && count != "99"
	}
	got, ok := impl.ReadFact(s)
	if ok != want || ok && textOfFact(got) != s || !ok && got != (impl.Fact{}) {
		t.Fatalf("ReadFact(%q) = %+v, %v, want %v", s, got, ok, want)
	}
	return ok
}

func TestReadFact(t *testing.T) {
	for _, s := range []string{
		"", " ", "  ", "take", "sow", "capture", "spare", "take ", "take 3", "take 3 from", "take 3 from ", "take from 3", "take 3 2", "take  from 2",
		"take 0 from 1", "take 97 from 1", "take -1 from 1", "take +1 from 1", "take 01 from 1", "take 1 from 01", "take 1 from +1", "take 1 from -0",
		"take 1 from -1", "take 1 from 16", "take 1 from store", "take store from 1", "take 1 into 1", "sow 1 from 1", "sow 1 into -1", "sow 1 into 16",
		"sow 1 into Store", "sow 1 into stores", "sow 1 into stor", "sow 0 into store", "sow 97 into store", "sow store into 1", "sow 1 into store ",
		"capture 1 into 1", "capture 1 from store", "spare 1 into 1", "spare 1 from store", "Take 1 from 1", "takes 1 from 1", "tak 1 from 1",
		"take 1 from 1 ", " take 1 from 1", "take  1 from 1", "take 1  from 1", "take 1 from  1", "take\t1 from 1", "take 1 from 1\n", "take 1 from 1 1",
		"take 1 from 1 from 1", "take 1 form 1", "take 1 From 1", "take 1  1", "take 999999999999999999 from 1", "take 1 from 9223372036854775807",
		"take 18446744073709551617 from 1", "take 1 from 18446744073709551617", "take one from 1", "take 1 from one", "take 1. from 1", "take 1 from 1.",
		"again ", " again", "again again", "Again", "agai", "again 0", "again 0 from 0", "again 0 into 0", "again 1 from 1", "turn ", "turn 0 from 0",
		"turn turn", "turns", "TURN", "turn\n", "turn\x00", "\x00", "\xff", "turn\xff", "take \xff from 1", "take 1 from \xff", "\xfftake 1 from 1",
		"take \u0661 from 1", "take 1 from \u0661", "take\u00a01\u00a0from\u00a01", "none", "0", "1", " 1 from 1", "again from 1", "   ", "0 1 from 1", "take 1 from 1\r",
		strings.Repeat("take 1 from 1 ", 10000), strings.Repeat(" ", 100000),
	} {
		if checkReadFact(t, s) {
			t.Errorf("%q was read", s)
		}
	}
}

// TestReadFactOfChangedTexts puts each of some pieces in front of and in place of each byte of a text, and leaves each one out.
func TestReadFactOfChangedTexts(t *testing.T) {
	pieces := []string{"", "0", "1", "9", "-", "+", " ", "a", "s", "store", "from", "into", "\n", "\x00", "\xff", "\u0661"}
	read := 0
	for _, good := range []string{
		"take 2 from 0", "take 96 from 15", "sow 1 into 9", "sow 12 into store", "capture 3 from 14", "spare 10 from 1", "again", "turn",
	} {
		for i := range len(good) + 1 {
			for _, piece := range pieces {
				read += int(bit(checkReadFact(t, good[:i]+piece+good[i:])))
				for end := i + 1; end <= min(i+5, len(good)); end++ {
					read += int(bit(checkReadFact(t, good[:i]+piece+good[end:])))
				}
			}
		}
	}
	words := []string{"take", "sow", "capture", "spare", "again", "turn", "from", "into", "store", "0", "1", "15", "16", "96", "97", "-1", ""}
	for _, a := range words {
		for _, b := range words {
			read += int(bit(checkReadFact(t, a))) + int(bit(checkReadFact(t, a+" "+b)))
			for _, c := range words {
				read += int(bit(checkReadFact(t, a+" "+b+" "+c)))
				for _, d := range words {
					read += int(bit(checkReadFact(t, a+" "+b+" "+c+" "+d)))
				}
			}
		}
	}
	if read < 100 {
		t.Errorf("only %d texts were read", read)
	}
}

// spoiledFacts has lists of facts; each one but the first two differs from the first one.
func spoiledFacts() [][]impl.Fact {
	good := []impl.Fact{factOf(1, 0, 2), factOf(2, 1, 1), factOf(2, -1, 1), factOf(6, 0, 0)}
	lists := [][]impl.Fact{good, slices.Clone(good), nil, good[:3], good[1:], append(slices.Clone(good), factOf(6, 0, 0)), append(slices.Clone(good), impl.Fact{})}
	for i := range good {
		for _, n := range []int64{1, -1, 256, 1 << 32, math.MinInt64} {
			for field := range 3 {
				list := slices.Clone(good)
				*[]*int64{&list[i].Kind, &list[i].Place, &list[i].Count}[field] += n
				lists = append(lists, list)
			}
		}
	}
	exchanged := slices.Clone(good)
	exchanged[1], exchanged[2] = exchanged[2], exchanged[1]
	return append(lists, exchanged)
}

func TestSameFacts(t *testing.T) {
	lists := spoiledFacts()
	for i, a := range lists {
		for j, b := range lists {
			want := len(a) == len(b)
			for k := 0; want && k < len(a); k++ {
				want = a[k].Kind == b[k].Kind && a[k].Place == b[k].Place && a[k].Count == b[k].Count
			}
			if impl.SameFacts(a, b) != want || want != (i == j || i+j == 1) {
				t.Errorf("SameFacts(%v, %v) is not %v", a, b, want)
			}
		}
		roomy := append(slices.Clone(a), factOf(9, 9, 9))
		if !impl.SameFacts(a, roomy[:len(a)]) || !impl.SameFacts(slices.Clone(a), a) {
			t.Errorf("%v is not the same as itself", a)
		}
	}
	if !impl.SameFacts(nil, nil) || !impl.SameFacts(nil, []impl.Fact{}) || !impl.SameFacts(make([]impl.Fact, 0, 5), nil) {
		t.Error("empty lists of facts differ")
	}
	if impl.SameFacts(nil, make([]impl.Fact, 1)) || impl.SameFacts(make([]impl.Fact, 2), make([]impl.Fact, 1)) {
		t.Error("lists of other lengths are the same")
	}
}

// expectFacts has the facts of a legal move, lap by lap.
func expectFacts(r impl.Rules, p impl.Position, move int64) []impl.Fact {
	s := impl.Sown{Pits: slices.Clone(p.Pits), Stores: slices.Clone(p.Stores)}
	var facts []impl.Fact
	for pit, relays := p.Player*r.Pits+move, true; relays; pit = s.Last {
		facts = append(facts, factOf(1, pit, s.Pits[pit]))
		var path []int64
		path, relays = addLap(r, &s, p.Player, pit)
		for i, place := range path {
			if slices.Index(path, place) == i {
				other := slices.DeleteFunc(slices.Clone(path), func(one int64) bool { return one == place })
				facts = append(facts, factOf(2, place, int64(len(path)-len(other))))
			}
		}
	}
	taken := expectCapture(r, s, p.Player)
	for _, pit := range taken.pits {
		facts = append(facts, factOf(3, pit, s.Pits[pit]))
	}
	if taken.slam && r.Slam == 2 {
		spared := int64(0)
		for _, pit := range takenBySeeds(r, s, p.Player) {
			spared += s.Pits[pit]
		}
		facts = append(facts, factOf(4, s.Last, spared))
	}
	return append(facts, factOf(6-bit(r.Again && s.Last == -1), 0, 0))
}

// expectReason is what the chapter says of a move that is not legal.
func expectReason(r impl.Rules, p impl.Position, move, fault int64) string {
	switch fault {
	case impl.ErrRange:
		return "no such move"
	case impl.ErrState:
		return "the pit is empty"
	case impl.ErrEndless:
		return "the move does not end"
	}
	if r.Slam == 1 && expectCapture(r, expectMove(r, p, move).all, p.Player).slam {
		return "all seeds of the other player would be captured"
	}
	return "the other player would have no seeds"
}

// textsOfFacts has the texts of some facts.
func textsOfFacts(facts []impl.Fact) []string {
	var texts []string
	for _, f := range facts {
		texts = append(texts, textOfFact(f))
	}
	return texts
}

// checkExplained checks all that is told of a legal move.
func checkExplained(t *testing.T, r impl.Rules, p impl.Position, want impl.Result) []impl.Fact {
	t.Helper()
	facts, code := impl.FactsOf(r, p, want.Move)
	if expected := expectFacts(r, p, want.Move); !slices.Equal(facts, expected) || code != impl.OK {
		t.Fatalf("%+v: FactsOf(%+v, %d) = %v, %d, want %v", r, p, want.Move, facts, code, expected)
	}
	if after, code := impl.ApplyFacts(r, p, facts); !sameNumbers(after, want.Next) || code != impl.OK {
		t.Fatalf("%+v: the facts %v of %+v lead to %+v, %d, want %+v", r, facts, p, after, code, want.Next)
	}
	if texts, code := impl.ExplainMove(r, p, want.Move); !slices.Equal(texts, textsOfFacts(facts)) || code != impl.OK {
		t.Fatalf("%+v: ExplainMove(%+v, %d) = %q, %d", r, p, want.Move, texts, code)
	}
	if reason, code := impl.WhyNot(r, p, want.Move); reason != "" || code != impl.ErrNotFound {
		t.Fatalf("%+v: WhyNot(%+v, %d) = %q, %d", r, p, want.Move, reason, code)
	}
	var touched []int64
	for pit := range 2 * r.Pits {
		if p.Pits[pit] != want.Next.Pits[pit] {
			touched = append(touched, pit)
		}
	}
	if got, code := impl.TouchedPits(r, p, want.Move); !slices.Equal(got, touched) || code != impl.OK {
		t.Fatalf("%+v: TouchedPits(%+v, %d) = %v, %d, want %v", r, p, want.Move, got, code, touched)
	}
	sown := int64(len(expectMove(r, p, want.Move).path))
	if got, code := impl.SeedsMoved(r, p, want.Move); got != sown || code != impl.OK {
		t.Fatalf("%+v: SeedsMoved(%+v, %d) = %d, %d, want %d", r, p, want.Move, got, code, sown)
	}
	return facts
}

// checkNotExplained checks what is told of a move that is not legal, in a valid position.
func checkNotExplained(t *testing.T, r impl.Rules, p impl.Position, move, fault int64, reason string) {
	t.Helper()
	if got, code := impl.WhyNot(r, p, move); got != reason || code != impl.OK {
		t.Fatalf("%+v: WhyNot(%+v, %d) = %q, %d, want %q", r, p, move, got, code, reason)
	}
	if got, code := impl.ExplainMove(r, p, move); !slices.Equal(got, []string{reason}) || code != impl.OK {
		t.Fatalf("%+v: ExplainMove(%+v, %d) = %q, %d, want %q", r, p, move, got, code, reason)
	}
	checkNoFacts(t, r, p, move, fault)
}

// checkNoFacts checks the error of the functions that return the one of MoveFault.
func checkNoFacts(t *testing.T, r impl.Rules, p impl.Position, move, fault int64) {
	t.Helper()
	if got, code := impl.FactsOf(r, p, move); len(got) != 0 || code != fault {
		t.Fatalf("%+v: FactsOf(%+v, %d) = %v, %d, want code %d", r, p, move, got, code, fault)
	}
	if got, code := impl.TouchedPits(r, p, move); len(got) != 0 || code != fault {
		t.Fatalf("%+v: TouchedPits(%+v, %d) = %v, %d, want code %d", r, p, move, got, code, fault)
	}
	if got, code := impl.SeedsMoved(r, p, move); got != 0 || code != fault {
		t.Fatalf("%+v: SeedsMoved(%+v, %d) = %d, %d, want code %d", r, p, move, got, code, fault)
	}
}

// checkExplanations checks all moves of a position, and numbers that are no moves.
func checkExplanations(t *testing.T, r impl.Rules, p impl.Position) [][]impl.Fact {
	t.Helper()
	var lists [][]impl.Fact
	faults, results := expectTurns(r, p)
	for _, want := range results {
		lists = append(lists, checkExplained(t, r, p, want))
	}
	for move, fault := range faults {
		if fault != impl.OK {
			checkNotExplained(t, r, p, int64(move), fault, expectReason(r, p, int64(move), fault))
		}
	}
	for _, move := range append([]int64{r.Pits, r.Pits + 1, 2 * r.Pits, -2}, extremes...) {
		checkNotExplained(t, r, p, move, impl.ErrRange, "no such move")
	}
	return lists
}

// seenFacts counts what was tried.
type seenFacts struct {
	kinds                                  [7]int
	laps, store, long, twice, manyCaptures int
	reasons                                map[string]int
}

func (s *seenFacts) add(lists [][]impl.Fact) {
	for _, facts := range lists {
		var counts [7]int
		for _, f := range facts {
			s.kinds[f.Kind]++
			counts[f.Kind]++
			s.store += int(bit(f.Kind == 2 && f.Place == -1))
			s.twice += int(bit(f.Kind == 2 && f.Count > 1))
			s.long += int(bit(f.Kind == 1 && f.Count > 17))
		}
		s.laps += int(bit(counts[1] > 1))
		s.manyCaptures += int(bit(counts[3] > 1))
	}
}

// TestExplanations compares all functions with what is found lap by lap; it is promise 11 as well.
func TestExplanations(t *testing.T) {
	seen := seenFacts{reasons: map[string]int{}}
	try := func(r impl.Rules, positions []impl.Position) {
		for _, p := range positions {
			seen.add(checkExplanations(t, r, p))
			for move := range r.Pits {
				reason, _ := impl.WhyNot(r, p, move)
				seen.reasons[reason]++
			}
		}
	}
	for _, r := range someMoveRules() {
		try(r, append(movePositions(r), validPositions(r)...))
	}
	// Slams, and moves without end.
	for i, r := range allCaptureRules() {
		r.Relay, r.Stores, r.Skip = i%3 == 0, r.Stores && i%3 > 0, i%5 == 0
		try(r, append(thinSides(r), fullPositions(r)[:20]...))
	}
	if slices.Min(seen.kinds[1:]) < 50 || min(seen.laps, seen.store, seen.long, seen.twice, seen.manyCaptures) < 100 || len(seen.reasons) != 5 {
		t.Errorf("only these were tried: %+v", seen)
	}
	for reason, times := range seen.reasons {
		if times < 30 {
			t.Errorf("%q was told %d times", reason, times)
		}
	}
}

// TestExplanationsOfLaps has as many laps as are allowed.
func TestExplanationsOfLaps(t *testing.T) {
	for _, c := range limitCases() {
		r := impl.Rules{Pits: c.pits, Seeds: 1, Relay: true, Stores: c.stores, Skip: c.skip}
		p, _ := impl.ReadPosition(r, c.text)
		checkExplanations(t, r, p)
		takes := 0
		facts, _ := impl.FactsOf(r, p, c.move)
		for _, f := range facts {
			takes += int(bit(f.Kind == impl.FactTake))
		}
		if c.laps <= 100 && int64(takes) != c.laps || c.laps > 100 && len(facts) != 0 || len(facts) > 3000 {
			t.Errorf("%+v has %d facts, %d of them begin laps", c, len(facts), takes)
		}
	}
}

// explainCase has the texts of all that is told of a move.
type explainCase struct {
	rules, text string
	move        int64
	want        string
}

func explainCases() []explainCase {
	return []explainCase{
		// The example of the chapter, and the same for player 1.
		{"pits=3 capture=two-three feed", "0 2,2,2/2,2,2 0,0", 0, "take 2 from 0, sow 1 into 1, sow 1 into 2, turn"},
		{"pits=3 capture=two-three feed", "1 2,2,2/2,2,2 0,0", 0, "take 2 from 3, sow 1 into 4, sow 1 into 5, turn"},
		// Seeds that are sown into the store; the same player moves again, or not.
		{"pits=2 stores again", "0 1,1/1,1 2,0", 1, "take 1 from 1, sow 1 into store, again"},
		{"pits=2 stores", "0 1,1/1,1 2,0", 1, "take 1 from 1, sow 1 into store, turn"},
		{"pits=2 stores again", "1 0,0/1,2 3,4", 1, "take 2 from 3, sow 1 into store, sow 1 into 0, turn"},
		{"pits=2 stores again", "1 0,0/2,2 3,4", 0, "take 2 from 2, sow 1 into 3, sow 1 into store, again"},
		// A lap longer than the board: places that are sown in twice, also the pit of the lap, in the order of the first seeds.
		{"pits=2", "0 5,0/0,0 0,0", 0, "take 5 from 0, sow 2 into 1, sow 1 into 2, sow 1 into 3, sow 1 into 0, turn"},
		{"pits=2 skip", "0 5,0/0,0 0,0", 0, "take 5 from 0, sow 2 into 1, sow 2 into 2, sow 1 into 3, turn"},
		{"pits=2 stores again", "0 0,6/0,0 0,0", 1, "take 6 from 1, sow 2 into store, sow 1 into 2, sow 1 into 3, sow 1 into 0, sow 1 into 1, again"},
		{"pits=2 stores skip", "1 0,0/96,0 0,0", 0, "take 96 from 2, sow 24 into 3, sow 24 into store, sow 24 into 0, sow 24 into 1, turn"},
		// Several laps; a place that is sown in again by another lap is told again.
		{"pits=4 relay capture=cross", "0 2,2,2,2/2,2,2,2 0,0", 0,
			"take 2 from 0, sow 1 into 1, sow 1 into 2, take 3 from 2, sow 1 into 3, sow 1 into 4, sow 1 into 5, " +
				"take 3 from 5, sow 1 into 6, sow 1 into 7, sow 1 into 0, capture 1 from 0, capture 3 from 7, turn"},
		{"pits=2 relay", "0 5,0/0,0 0,0", 0,
			"take 5 from 0, sow 2 into 1, sow 1 into 2, sow 1 into 3, sow 1 into 0, take 2 from 1, sow 1 into 2, sow 1 into 3, " +
				"take 2 from 3, sow 1 into 0, sow 1 into 1, turn"},
		{"pits=2 stores again relay", "0 1,5/0,0 0,0", 0,
			"take 1 from 0, sow 1 into 1, take 6 from 1, sow 2 into store, sow 1 into 2, sow 1 into 3, sow 1 into 0, sow 1 into 1, again"},
		// Captures from one pit and from several ones, in their order.
		{"pits=3 capture=two-three", "0 0,0,2/1,2,5 0,0", 2, "take 2 from 2, sow 1 into 3, sow 1 into 4, capture 3 from 4, capture 2 from 3, turn"},
		{"pits=3 capture=two-three", "0 0,0,1/1,2,5 0,0", 2, "take 1 from 2, sow 1 into 3, capture 2 from 3, turn"},
		{"pits=2 capture=even", "1 1,4/0,1 0,0", 1, "take 1 from 3, sow 1 into 0, capture 2 from 0, turn"},
		{"pits=2 capture=cross", "0 1,0/2,3 2,1", 0, "take 1 from 0, sow 1 into 1, capture 1 from 1, capture 2 from 2, turn"},
		{"pits=2 stores capture=cross", "0 5,0/0,0 2,1", 0,
			"take 5 from 0, sow 1 into 1, sow 1 into store, sow 1 into 2, sow 1 into 3, sow 1 into 0, capture 1 from 0, capture 1 from 3, turn"},
		// A slam under each rule about slams.
		{"pits=2 capture=two-three slam=take", "0 0,1/1,0 0,0", 1, "take 1 from 1, sow 1 into 2, capture 2 from 2, turn"},
		{"pits=2 capture=two-three slam=nothing", "0 0,1/1,0 0,0", 1, "take 1 from 1, sow 1 into 2, spare 2 from 2, turn"},
		{"pits=2 capture=two-three slam=forbid", "0 0,1/1,0 0,0", 1, "all seeds of the other player would be captured"},
		{"pits=2 capture=two-three slam=nothing", "0 1,2/1,2 0,0", 1, "take 2 from 1, sow 1 into 2, sow 1 into 3, spare 5 from 3, turn"},
		{"pits=2 capture=cross slam=take", "0 1,0/2,0 0,0", 0, "take 1 from 0, sow 1 into 1, capture 1 from 1, capture 2 from 2, turn"},
		{"pits=2 capture=cross slam=nothing", "0 1,0/2,0 0,0", 0, "take 1 from 0, sow 1 into 1, spare 3 from 1, turn"},
		{"pits=2 capture=cross slam=forbid", "0 1,0/2,0 0,0", 0, "all seeds of the other player would be captured"},
		{"pits=2 capture=even slam=nothing", "1 3,0/0,1 0,0", 1, "take 1 from 3, sow 1 into 0, spare 4 from 0, turn"},
		{"pits=2 capture=even slam=nothing", "1 3,1/0,1 0,0", 1, "take 1 from 3, sow 1 into 0, capture 4 from 0, turn"},
		{"pits=2 capture=even slam=forbid", "1 3,1/0,1 0,0", 1, "take 1 from 3, sow 1 into 0, capture 4 from 0, turn"},
		{"pits=2 capture=none slam=nothing", "0 0,1/1,0 0,0", 1, "take 1 from 1, sow 1 into 2, turn"},
	}
}

// whyCases have moves that are not legal.
func whyCases() []explainCase {
	const slam, hungry = "all seeds of the other player would be captured", "the other player would have no seeds"
	return []explainCase{
		{"pits=2", "0 0,1/1,0 0,0", 0, "the pit is empty"},
		{"pits=2", "1 0,1/1,0 0,0", 1, "the pit is empty"},
		{"pits=2", "0 0,1/1,0 0,0", -1, "no such move"},
		{"pits=2", "0 0,1/1,0 0,0", 2, "no such move"},
		{"pits=2 relay", "0 2,0/2,1 0,0", 0, "the move does not end"},
		{"pits=2 skip relay feed slam=forbid capture=even", "0 4,6/0,0 0,0", 1, "the move does not end"},
		{"pits=3 capture=two-three feed", "0 1,0,1/0,0,0 0,0", 0, hungry},
		{"pits=3 capture=two-three feed", "0 1,0,1/0,0,0 0,0", 1, "the pit is empty"},
		{"pits=3 capture=two-three feed", "0 1,0,1/0,0,0 0,0", 2, "take 1 from 2, sow 1 into 3, turn"},
		{"pits=2 stores again feed", "0 0,1/0,0 0,0", 1, hungry},
		// A move that gives seeds to a player without any, and takes all of them, is a slam; why depends on the rule about slams.
		{"pits=2 capture=two-three feed", "0 0,6/0,0 0,0", 1, hungry},
		{"pits=2 capture=two-three feed slam=take", "0 0,6/0,0 0,0", 1, hungry},
		{"pits=2 capture=two-three feed slam=forbid", "0 0,6/0,0 0,0", 1, slam},
		{"pits=2 capture=two-three slam=forbid", "0 0,6/0,0 0,0", 1, slam},
		{"pits=2 capture=two-three feed slam=nothing", "0 0,6/0,0 0,0", 1,
			"take 6 from 1, sow 2 into 2, sow 2 into 3, sow 1 into 0, sow 1 into 1, spare 4 from 3, turn"},
		// The rule forbids slams, but there is none.
		{"pits=3 capture=two-three feed slam=forbid", "0 1,0,1/0,0,0 0,0", 0, hungry},
		{"pits=2 capture=two-three feed slam=forbid", "0 0,1/1,0 0,0", 1, slam},
	}
}

func TestExplanationsByHand(t *testing.T) {
	for _, c := range append(explainCases(), whyCases()...) {
		r, problems, _ := impl.CheckRules(c.rules + " seeds=1")
		p, ok := impl.ReadPosition(r, c.text)
		if !ok || len(problems) > 0 {
			t.Fatalf("%+v cannot be read", c)
		}
		if texts, code := impl.ExplainMove(r, p, c.move); strings.Join(texts, ", ") != c.want || code != impl.OK {
			t.Errorf("%+v: ExplainMove = %q, %d", c, texts, code)
		}
		reason, code := impl.WhyNot(r, p, c.move)
		if strings.HasPrefix(c.want, "take") {
			if facts, other := impl.FactsOf(r, p, c.move); len(facts) < 3 || other != impl.OK || reason != "" || code != impl.ErrNotFound {
				t.Errorf("%+v: FactsOf = %v, %d; WhyNot = %q, %d", c, facts, other, reason, code)
			}
		} else if reason != c.want || code != impl.OK {
			t.Errorf("%+v: WhyNot = %q, %d", c, reason, code)
		}
		checkExplanations(t, r, p)
		checkExplanations(t, r, turned(p))
	}
}

// TestTouchedPits has pits whose numbers change, and others that are sown in or captured and have as many seeds as before.
func TestTouchedPits(t *testing.T) {
	for _, c := range []struct {
		rules, text string
		move        int64
		pits        []int64
		seeds       int64
	}{
		{"pits=3 capture=two-three feed", "0 2,2,2/2,2,2 0,0", 0, []int64{0, 1, 2}, 2},
		{"pits=3 capture=two-three", "0 0,0,2/1,2,5 0,0", 2, []int64{2, 3, 4}, 2},
		{"pits=2 stores again", "0 1,1/1,1 2,0", 1, []int64{1}, 1},
		{"pits=2 stores again", "1 0,0/1,2 3,4", 1, []int64{0, 3}, 2},
		{"pits=2 capture=cross", "0 1,0/2,3 2,1", 0, []int64{0, 2}, 1},
		{"pits=2 stores capture=cross", "0 5,0/0,0 2,1", 0, []int64{0, 1, 2}, 5},
		{"pits=2 capture=two-three", "1 1,0/0,1 0,0", 1, []int64{0, 3}, 1},
		{"pits=2 relay", "0 5,0/0,0 0,0", 0, []int64{0, 1, 2}, 9},
		{"pits=2 relay", "0 1,1/0,0 0,0", 0, []int64{0, 1, 2, 3}, 3},
		{"pits=2 stores skip", "1 0,0/96,0 0,0", 0, []int64{0, 1, 2, 3}, 96},
		// A relay that ends where it began: the pit has its seed again; and a lap that ends there.
		{"pits=2 relay", "0 1,2/0,0 0,0", 0, []int64{1, 2, 3}, 4},
		{"pits=2 relay", "1 0,0/1,2 0,0", 0, []int64{0, 1, 3}, 4},
		{"pits=2", "1 0,0/0,4 0,0", 1, []int64{0, 1, 2, 3}, 4},
	} {
		r, problems, _ := impl.CheckRules(c.rules + " seeds=1")
		p, ok := impl.ReadPosition(r, c.text)
		if !ok || len(problems) > 0 {
			t.Fatalf("%+v cannot be read", c)
		}
		if got, code := impl.TouchedPits(r, p, c.move); !slices.Equal(got, c.pits) || code != impl.OK {
			t.Errorf("%+v: TouchedPits = %v, %d", c, got, code)
		}
		if got, code := impl.SeedsMoved(r, p, c.move); got != c.seeds || code != impl.OK {
			t.Errorf("%+v: SeedsMoved = %d, %d", c, got, code)
		}
	}
}

func TestExplanationsOfInvalidPositions(t *testing.T) {
	invalidPairs(func(r impl.Rules, p impl.Position) {
		for _, move := range []int64{math.MinInt64, -1, 0, 1, 2, r.Pits, math.MaxInt64} {
			checkNoFacts(t, r, p, move, impl.ErrInvalid)
			if got, code := impl.WhyNot(r, p, move); got != "" || code != impl.ErrInvalid {
				t.Fatalf("%+v: WhyNot(%+v, %d) = %q, %d", r, p, move, got, code)
			}
			if got, code := impl.ExplainMove(r, p, move); len(got) != 0 || code != impl.ErrInvalid {
				t.Fatalf("%+v: ExplainMove(%+v, %d) = %q, %d", r, p, move, got, code)
			}
		}
		for _, facts := range [][]impl.Fact{nil, {factOf(6, 0, 0)}, {factOf(9, 9, 9)}, make([]impl.Fact, 3000), make([]impl.Fact, 3001)} {
			checkApplied(t, r, p, facts, impl.Position{}, impl.ErrInvalid)
		}
	})
}

// checkApplied checks what some facts lead to, or that there is an error.
func checkApplied(t *testing.T, r impl.Rules, p impl.Position, facts []impl.Fact, want impl.Position, wantCode int64) {
	t.Helper()
	got, code := impl.ApplyFacts(r, p, facts)
	if code != wantCode || code == impl.OK && !sameNumbers(got, want) || code != impl.OK && !isZeroPosition(got) {
		t.Fatalf("%+v: ApplyFacts(%+v, %v) = %+v, %d, want %+v, %d", r, p, facts, got, code, want, wantCode)
	}
}

// expectApplied finds, in its own way, what facts lead to: with a list of the seeds of all places, the stores and the hand.
func expectApplied(r impl.Rules, p impl.Position, facts []impl.Fact) (impl.Position, int64) {
	if len(facts) > 3000 {
		return impl.Position{}, impl.ErrFull
	}
	board := append(slices.Concat(p.Pits, p.Stores), 0)
	size, player := int(2*r.Pits), p.Player
	hand := size + 2
	for _, f := range facts {
		from, into := -1, -1
		switch f.Kind {
		case 1:
			from, into = int(f.Place), hand
		case 2:
			from, into = hand, int(f.Place)
			if f.Place == -1 && r.Stores {
				into = size + int(player)
			}
		case 3:
			from, into = int(f.Place), size+int(player)
		case 6:
			player = 1 - player
		}
		outside := f.Place >= int64(size) || f.Place == -1 && !r.Stores
		if textOfFact(f) == "" || outside || board[hand] > 0 && f.Kind != 2 {
			return impl.Position{}, impl.ErrState
		}
		if from < 0 {
			continue
		}
		if board[from] < f.Count || f.Kind != 2 && board[from] > f.Count {
			return impl.Position{}, impl.ErrState
		}
		board[from] -= f.Count
		board[into] += f.Count
	}
	if board[hand] > 0 {
		return impl.Position{}, impl.ErrState
	}
	return positionOf(player, board[size:hand], board[:size]...), impl.OK
}

// applyCase has the texts of facts, and the text of the position after them; empty if there is an error.
type applyCase struct {
	rules, text, facts, want string
}

func applyCases() []applyCase {
	const two, store = "pits=2", "pits=2 stores"
	return []applyCase{
		// Without facts nothing changes.
		{two, "0 1,2/3,4 5,6", "", "0 1,2/3,4 5,6"},
		{store, "1 0,0/0,0 0,0", "", "1 0,0/0,0 0,0"},
		// Facts alone: of the hand, captures, those that change nothing, and the player.
		{two, "0 1,2/3,4 5,6", "turn", "1 1,2/3,4 5,6"},
		{two, "1 1,2/3,4 5,6", "turn", "0 1,2/3,4 5,6"},
		{two, "1 1,2/3,4 5,6", "turn, turn", "1 1,2/3,4 5,6"},
		{two, "0 1,2/3,4 5,6", "again", "0 1,2/3,4 5,6"},
		{two, "1 1,2/3,4 5,6", "again, again, turn, again", "0 1,2/3,4 5,6"},
		{two, "0 1,2/3,4 5,6", "spare 1 from 0", "0 1,2/3,4 5,6"},
		{two, "0 1,2/3,4 5,6", "spare 96 from 3, spare 5 from 2", "0 1,2/3,4 5,6"},
		{two, "0 1,2/3,4 5,6", "capture 3 from 2", "0 1,2/0,4 8,6"},
		{two, "1 1,2/3,4 5,6", "capture 3 from 2", "1 1,2/0,4 5,9"},
		{two, "1 1,2/3,4 5,6", "capture 3 from 2, capture 1 from 0", "1 0,2/0,4 5,10"},
		{two, "0 1,2/3,4 5,6", "turn, capture 3 from 2", "1 1,2/0,4 5,9"},
		{two, "0 1,2/3,4 5,6", "capture 3 from 2, turn, capture 4 from 3", "1 1,2/0,0 8,10"},
		{two, "0 0,0/0,96 0,0", "capture 96 from 3", "0 0,0/0,0 96,0"},
		{two, "0 1,2/3,4 5,6", "take 2 from 1, sow 1 into 2, sow 1 into 3", "0 1,0/4,5 5,6"},
		{two, "0 1,2/3,4 5,6", "take 2 from 1, sow 2 into 1", "0 1,2/3,4 5,6"},
		{two, "0 1,2/3,4 5,6", "take 3 from 2, sow 1 into 0, sow 1 into 0, sow 1 into 0", "0 4,2/0,4 5,6"},
		{two, "0 0,0/0,96 0,0", "take 96 from 3, sow 96 into 0, take 96 from 0, sow 1 into 1, sow 95 into 2", "0 0,1/95,0 0,0"},
		{store, "0 1,2/3,4 5,6", "take 2 from 1, sow 1 into store, sow 1 into 2, turn", "1 1,0/4,4 6,6"},
		{store, "1 1,2/3,4 5,6", "take 2 from 1, sow 2 into store, again", "1 1,0/3,4 5,8"},
		{store, "0 1,2/3,4 5,6", "turn, take 2 from 1, sow 2 into store", "1 1,0/3,4 5,8"},
		// What is captured is gone, and a pit can be sown in and taken again.
		{two, "0 1,2/3,4 5,6", "take 1 from 0, sow 1 into 1, capture 3 from 1, capture 3 from 2", "0 0,0/0,4 11,6"},
		{two, "0 1,2/3,4 5,6", "take 1 from 0, sow 1 into 1, take 3 from 1, sow 3 into 0", "0 3,0/3,4 5,6"},
	}
}

// failingCases have facts that cannot happen.
func failingCases() []applyCase {
	const two, store, four = "pits=2", "pits=2 stores", "pits=4"
	return []applyCase{
		// The place is none of the game.
		{two, "0 1,2/3,4 5,6", "take 1 from 4", ""},
		{two, "0 1,2/3,4 5,6", "take 1 from 15", ""},
		{two, "0 1,2/3,4 5,6", "capture 1 from 4", ""},
		{two, "0 1,2/3,4 5,6", "spare 1 from 4", ""},
		{two, "0 1,2/3,4 5,6", "spare 1 from 15", ""},
		{two, "0 1,2/3,4 5,6", "take 1 from 0, sow 1 into 4", ""},
		{two, "0 1,2/3,4 5,6", "take 1 from 0, sow 1 into store", ""},
		{four, "0 1,2,3,4/5,6,7,8 5,6", "take 1 from 0, sow 1 into 8", ""},
		{four, "0 1,2,3,4/5,6,7,8 5,6", "take 8 from 8", ""},
		// The number is not that of the seeds in the pit.
		{two, "0 1,2/3,4 5,6", "take 1 from 1, sow 1 into 0", ""},
		{two, "0 1,2/3,4 5,6", "take 3 from 1, sow 3 into 0", ""},
		{two, "0 0,2/3,4 5,6", "take 1 from 0", ""},
		{two, "0 1,2/3,4 5,6", "capture 2 from 2", ""},
		{two, "0 1,2/3,4 5,6", "capture 4 from 2", ""},
		{two, "0 0,2/3,4 5,6", "capture 1 from 0", ""},
		{two, "0 1,2/3,4 5,6", "capture 3 from 2, capture 3 from 2", ""},
		// There are not as many seeds in the hand.
		{two, "0 1,2/3,4 5,6", "sow 1 into 0", ""},
		{store, "0 1,2/3,4 5,6", "sow 1 into store", ""},
		{two, "0 1,2/3,4 5,6", "take 2 from 1, sow 3 into 0", ""},
		{two, "0 1,2/3,4 5,6", "take 2 from 1, sow 1 into 0, sow 2 into 0", ""},
		{two, "0 1,2/3,4 5,6", "take 2 from 1, sow 2 into 0, sow 1 into 0", ""},
		{store, "0 1,2/3,4 5,6", "take 2 from 1, sow 96 into store", ""},
		// The hand is not empty before another fact, or at the end.
		{two, "0 1,2/3,4 5,6", "take 2 from 1", ""},
		{two, "0 1,2/3,4 5,6", "take 2 from 1, sow 1 into 0", ""},
		{two, "0 1,2/3,4 5,6", "take 2 from 1, take 1 from 0, sow 3 into 2", ""},
		{two, "0 1,2/3,4 5,6", "take 2 from 1, sow 1 into 0, take 2 from 0, sow 3 into 2", ""},
		{two, "0 1,2/3,4 5,6", "take 2 from 1, capture 1 from 0, sow 2 into 2", ""},
		{two, "0 1,2/3,4 5,6", "take 2 from 1, spare 1 from 0, sow 2 into 2", ""},
		{two, "0 1,2/3,4 5,6", "take 2 from 1, again, sow 2 into 2", ""},
		{two, "0 1,2/3,4 5,6", "take 2 from 1, turn, sow 2 into 2", ""},
		{two, "0 1,2/3,4 5,6", "take 2 from 1, sow 1 into 2, turn", ""},
		// Several errors at once.
		{two, "0 1,2/3,4 5,6", "take 5 from 5, turn", ""},
		{two, "0 1,2/3,4 5,6", "take 2 from 1, take 5 from 9, sow 50 into store", ""},
		{two, "0 1,2/3,4 5,6", "take 2 from 1, sow 50 into store", ""},
	}
}

func TestApplyFactsByHand(t *testing.T) {
	for _, c := range append(applyCases(), failingCases()...) {
		r, problems, _ := impl.CheckRules(c.rules + " seeds=1")
		p, ok := impl.ReadPosition(r, c.text)
		var facts []impl.Fact
		for text := range strings.SplitSeq(c.facts, ", ") {
			f, read := impl.ReadFact(text)
			if ok = ok && (read || c.facts == ""); read {
				facts = append(facts, f)
			}
		}
		want, readable := impl.ReadPosition(r, c.want)
		if !ok || len(problems) > 0 || readable != (c.want != "") {
			t.Fatalf("%+v cannot be read", c)
		}
		code := impl.ErrState * bit(c.want == "")
		checkApplied(t, r, p, facts, want, code)
		if expected, other := expectApplied(r, p, facts); !sameNumbers(expected, want) || other != code {
			t.Fatalf("%+v is expected to lead to %+v, %d", c, expected, other)
		}
		// Facts that cannot be written, at the beginning and at the end.
		for _, bad := range []impl.Fact{{}, factOf(7, 0, 0), factOf(5, 1, 0), factOf(6, 0, 1), factOf(4, 0, 0), factOf(2, 0, 0), factOf(2, 0, -1), factOf(1, -1, 1)} {
			checkApplied(t, r, p, append([]impl.Fact{bad}, facts...), impl.Position{}, impl.ErrState)
			checkApplied(t, r, p, append(slices.Clone(facts), bad), impl.Position{}, impl.ErrState)
		}
	}
}

// TestApplyFactsAtTheLimits has single facts with each place and each number around the limits, with an empty hand and a full one.
func TestApplyFactsAtTheLimits(t *testing.T) {
	var fine, wrong int
	for _, r := range append(boards(), impl.Rules{Pits: 8, Seeds: 1, Stores: true}, impl.Rules{Pits: 2, Seeds: 1}) {
		size := 2 * r.Pits
		one := positionOf(r.Pits%2, []int64{1, 2}, slices.Repeat([]int64{1}, int(size))...)
		all := positionOf(1-r.Pits%2, []int64{0, 0}, make([]int64, size)...)
		all.Pits[size-1] = 96
		for _, p := range []impl.Position{one, all} {
			for _, place := range append([]int64{size - 1, size, size + 1}, numbersAround()...) {
				for _, count := range numbersAround() {
					for kind := range int64(8) {
						f := factOf(kind, place, count)
						taken := []impl.Fact{factOf(1, size-1, p.Pits[size-1]), f}
						for _, facts := range [][]impl.Fact{{f}, taken, append(slices.Clone(taken), factOf(2, 0, p.Pits[size-1]-count))} {
							want, code := expectApplied(r, p, facts)
							checkApplied(t, r, p, facts, want, code)
							fine += int(bit(code == impl.OK))
							wrong += int(bit(code != impl.OK))
						}
					}
				}
			}
		}
	}
	if min(fine, wrong) < 500 {
		t.Errorf("only %d lists could be applied, and %d not", fine, wrong)
	}
}

// TestApplyFactsWithTheMostFacts has as many facts as are allowed, and more, also with another error.
func TestApplyFactsWithTheMostFacts(t *testing.T) {
	for _, r := range boards() {
		p := positionOf(1, []int64{1, 2}, slices.Repeat([]int64{1}, int(2*r.Pits))...)
		for _, length := range []int{2998, 2999, 3000, 3001, 3002, 10000} {
			turns := slices.Repeat([]impl.Fact{factOf(6, 0, 0)}, length)
			swaps := slices.Repeat([]impl.Fact{factOf(1, 0, 1), factOf(2, 0, 1)}, length)[:length]
			bad := slices.Clone(turns)
			bad[length-1].Count = 1
			want := clonePosition(p)
			want.Player = int64(length+1) % 2
			if length > 3000 {
				checkApplied(t, r, p, turns, impl.Position{}, impl.ErrFull)
				checkApplied(t, r, p, swaps, impl.Position{}, impl.ErrFull)
				checkApplied(t, r, p, bad, impl.Position{}, impl.ErrFull)
				continue
			}
			checkApplied(t, r, p, turns, want, impl.OK)
			checkApplied(t, r, p, bad, impl.Position{}, impl.ErrState)
			// A seed stays in the hand if the number of facts is odd.
			checkApplied(t, r, p, swaps, p, impl.ErrState*int64(length%2))
		}
	}
}

// changedFacts changes a list of facts in one place.
func changedFacts(random *rand.Rand, facts []impl.Fact) []impl.Fact {
	facts = slices.Clone(facts)
	at, other := random.Intn(len(facts)), random.Intn(len(facts))
	switch random.Intn(8) {
	case 0:
		facts[at].Kind = random.Int63n(8)
	case 1:
		facts[at].Place = random.Int63n(20) - 2
	case 2:
		facts[at].Count += random.Int63n(5) - 2
	case 3:
		facts[at], facts[other] = facts[other], facts[at]
	case 4:
		facts = slices.Delete(facts, at, at+1)
	case 5:
		facts = slices.Insert(facts, at, facts[other])
	case 6:
		facts = slices.Insert(facts, at, factOf(4+random.Int63n(3), 0, 0))
	default:
		facts = facts[:at]
	}
	return facts
}

// TestApplyChangedFacts applies facts of moves that have been changed, and facts of several moves.
func TestApplyChangedFacts(t *testing.T) {
	random := rand.New(rand.NewSource(1111))
	var fine, wrong int
	for _, r := range someMoveRules() {
		for _, p := range movePositions(r) {
			_, results := expectTurns(r, p)
			if len(results) == 0 {
				continue
			}
			facts, _ := impl.FactsOf(r, p, results[random.Intn(len(results))].Move)
			for range 10 {
				changed := changedFacts(random, facts)
				if random.Intn(3) == 0 && len(changed) > 0 {
					changed = changedFacts(random, changed)
				}
				want, code := expectApplied(r, p, changed)
				checkApplied(t, r, p, changed, want, code)
				fine += int(bit(code == impl.OK))
				wrong += int(bit(code != impl.OK))
			}
		}
	}
	if min(fine, wrong) < 1000 {
		t.Errorf("only %d changed lists could be applied, and %d not", fine, wrong)
	}
}

// TestFactsOfGames is promise 11 for games: the facts of all their moves lead from the first position to the last one.
func TestFactsOfGames(t *testing.T) {
	applied, longest := 0, 0
	for _, w := range append(playedGames(), circle(120)) {
		var all []impl.Fact
		for i, move := range w.game.Moves {
			facts, code := impl.FactsOf(w.game.Rules, w.history[i], move)
			next, other := impl.ApplyFacts(w.game.Rules, w.history[i], facts)
			after, gain, third := impl.MakeMove(w.game.Rules, w.history[i], move)
			if code != impl.OK || other != impl.OK || third != impl.OK || !impl.SamePosition(next, after) || !sameNumbers(next, w.history[i+1]) || gain != w.gains[i] {
				t.Fatalf("%+v: the facts %v of move %d lead to %+v, %d", w.game, facts, i, next, code)
			}
			all = append(all, facts...)
		}
		longest = max(longest, len(all))
		if len(all) > 3000 {
			checkApplied(t, w.game.Rules, w.game.Start, all, impl.Position{}, impl.ErrFull)
			continue
		}
		applied++
		checkApplied(t, w.game.Rules, w.game.Start, all, w.game.Now, impl.OK)
	}
	if applied < 100 || longest < 300 {
		t.Errorf("only %d games were applied, the longest one had %d facts", applied, longest)
	}
}

// TestFactsOfTheFirstMoves has all rules.
func TestFactsOfTheFirstMoves(t *testing.T) {
	number := int64(0)
	eachRules(func(r impl.Rules) {
		p := positionOf(number%2, []int64{0, 0}, slices.Repeat([]int64{r.Seeds}, int(2*r.Pits))...)
		move := number % r.Pits
		number++
		if want, fault := expectTurn(r, p, move); fault == impl.OK {
			checkExplained(t, r, p, want)
		} else {
			checkNotExplained(t, r, p, move, fault, expectReason(r, p, move, fault))
		}
	})
}

// spaciousFacts returns facts with marks in the unused capacity of their list, and a function that tells whether all is as it was.
func spaciousFacts(facts []impl.Fact) ([]impl.Fact, func() bool) {
	list := append(slices.Clone(facts), slices.Repeat([]impl.Fact{factOf(-7, -7, -7)}, 4)...)
	old := slices.Clone(list)
	return list[:len(facts)], func() bool { return slices.Equal(list, old) }
}

func TestExplanationsLeaveTheirArguments(t *testing.T) {
	for i, r := range append(boards(), someMoveRules()...) {
		for j, p := range append(movePositions(r), append(validPositions(r), invalidPositions(r)...)...) {
			if (i+j)%5 > 0 {
				continue
			}
			q, unchanged := spacious(p)
			for _, move := range append(allMovesOf(r), -1) {
				list, _ := impl.FactsOf(r, p, move)
				facts, same := spaciousFacts(list)
				others, alike := spaciousFacts([]impl.Fact{factOf(1, 0, 1), factOf(2, -1, 1), factOf(9, 9, 9)})
				resultsOfExplanations(r, q, move, facts, others, "take 1 from 1")
				resultsOfExplanations(r, q, move, others, facts, "sow 1 from 1")
				if !unchanged() || !same() || !alike() {
					t.Fatalf("%+v: %+v, %v or %v was changed", r, p, list, others)
				}
			}
		}
	}
}

func TestExplanationsAreNewMemory(t *testing.T) {
	for i, r := range append(boards(), someMoveRules()...) {
		for j, p := range append(movePositions(r), validPositions(r)...) {
			_, results := expectTurns(r, p)
			if (i+j)%5 > 0 || len(results) == 0 {
				continue
			}
			move := results[j%len(results)].Move
			facts, _ := impl.FactsOf(r, p, move)
			kept, same := spaciousFacts(facts)
			q, unchanged := spacious(p)
			checkNewPositions(t, p, func() bool { return unchanged() && same() }, map[string]func() impl.Position{
				"ApplyFacts":         func() impl.Position { s, _ := impl.ApplyFacts(r, q, kept); return s },
				"ApplyFacts of none": func() impl.Position { s, _ := impl.ApplyFacts(r, q, nil); return s },
				"TouchedPits":        func() impl.Position { s, _ := impl.TouchedPits(r, q, move); return impl.Position{Pits: s} },
			})
			texts, _ := impl.ExplainMove(r, q, move)
			for k := range facts[:cap(facts)] {
				facts[:cap(facts)][k] = factOf(-9, -9, -9)
			}
			for k := range texts[:cap(texts)] {
				texts[:cap(texts)][k] = "-"
			}
			if again, _ := impl.FactsOf(r, q, move); !slices.Equal(again, kept) || !unchanged() {
				t.Fatalf("%+v: FactsOf(%+v, %d) shares memory: %v", r, p, move, again)
			}
			if again, _ := impl.ExplainMove(r, q, move); !slices.Equal(again, textsOfFacts(kept)) {
				t.Fatalf("%+v: ExplainMove(%+v, %d) shares memory: %v", r, p, move, again)
			}
		}
	}
}
