package tests

import (
	"fmt"
	"math"
	"math/rand"
	"regexp"
	"slices"
	"strconv"
	"strings"
	"sync"
	"testing"

	"loop.example/g00926/impl"
)

func TestLineFaultNames(t *testing.T) {
	kinds := []int64{
		impl.LineRules, impl.LineStart, impl.LineForm, impl.LineNumber, impl.LineMove, impl.LineGain, impl.LineEnd,
	}
	for i, name := range []string{"rules", "start", "form", "number", "move", "gain", "end"} {
		if kinds[i] != int64(i)+1 || impl.LineFault(kinds[i]) != name {
			t.Errorf("the fault %d is %d and has the name %q", i+1, kinds[i], impl.LineFault(kinds[i]))
		}
	}
	for _, kind := range append([]int64{0, 8, 9, -2, 256, 257, 1<<32 + 1}, extremes...) {
		if name := impl.LineFault(kind); name != "" {
			t.Errorf("LineFault(%d) = %q", kind, name)
		}
	}
	if impl.MaxRecord != 4000 {
		t.Errorf("MaxRecord is %d", impl.MaxRecord)
	}
}

// textOfMoves is what the chapter says of the text of a list of moves, of which 120 from 0 to 7 are allowed.
func textOfMoves(moves []int64) (string, bool) {
	text := ""
	for i, move := range moves {
		if i == 120 || !slices.Contains([]int64{0, 1, 2, 3, 4, 5, 6, 7}, move) {
			return "", false
		}
		text += " " + strconv.FormatInt(move, 10)
	}
	return strings.TrimPrefix(text, " "), true
}

// someMoves has lists of moves, also lists that have no text.
func someMoves() [][]int64 {
	random := rand.New(rand.NewSource(10))
	lists := [][]int64{
		nil, {}, {0}, {7}, {0, 7}, {7, 0, 7}, {2, 0}, {-1}, {8}, {0, -1}, {8, 0}, {7, 8}, {9}, {10}, {3, 10, 3}, {1, 2, 3, 4, 5, 6, 7, 8},
	}
	for _, n := range append([]int64{48, 55, 256, 263, 1<<32 + 7}, extremes...) {
		lists = append(lists, []int64{n}, []int64{0, n}, []int64{n, 0}, []int64{1, n, 1})
	}
	for _, length := range []int{2, 3, 10, 118, 119, 120, 121, 122, 240, 5000} {
		list := make([]int64, length)
		for i := range list {
			list[i] = random.Int63n(8)
		}
		lists = append(lists, make([]int64, length), slices.Repeat([]int64{7}, length), list)
		for _, at := range []int{0, length / 2, length - 1} {
			for _, n := range []int64{-1, 8} {
				other := slices.Clone(list)
				other[at] = n
				lists = append(lists, other)
			}
		}
	}
	return lists
}

func TestMovesText(t *testing.T) {
	texts := 0
	for _, list := range someMoves() {
		moves, unchanged := spacious(impl.Position{Pits: list})
		want, ok := textOfMoves(list)
		texts += int(bit(ok))
		if got := impl.MovesText(moves.Pits); got != want || !unchanged() {
			t.Errorf("MovesText(%v) = %q, want %q", list, got, want)
		}
		if !ok {
			continue
		}
		read, ok := impl.ReadMoves(want)
		if !ok || !slices.Equal(read, list) {
			t.Errorf("ReadMoves(%q) = %v, %v", want, read, ok)
		}
		ruinList(read)
		if again, _ := impl.ReadMoves(want); !slices.Equal(again, list) {
			t.Errorf("ReadMoves(%q) shares memory", want)
		}
	}
	if texts < 20 {
		t.Errorf("only %d lists have a text", texts)
	}
}

func TestMovesTextByHand(t *testing.T) {
	for text, moves := range map[string][]int64{
		"": nil, "0": {0}, "7": {7}, "2 0": {2, 0}, "0 0 0": {0, 0, 0}, "7 6 5 4 3 2 1 0": {7, 6, 5, 4, 3, 2, 1, 0},
		strings.Repeat("3 ", 119) + "3": slices.Repeat([]int64{3}, 120),
	} {
		if got := impl.MovesText(moves); got != text {
			t.Errorf("MovesText(%v) = %q, want %q", moves, got, text)
		}
		if got, ok := impl.ReadMoves(text); !slices.Equal(got, moves) || !ok {
			t.Errorf("ReadMoves(%q) = %v, %v, want %v", text, got, ok, moves)
		}
	}
}

// movesForm has the texts that moves can have.
var movesForm = regexp.MustCompile(`\A(?:[0-7](?: [0-7]){0,119})?\z`)

func checkReadMoves(t *testing.T, s string) {
	t.Helper()
	got, ok := impl.ReadMoves(s)
	if want := movesForm.MatchString(s); ok != want || !ok && got != nil {
		t.Fatalf("ReadMoves(%q) = %v, %v", s, got, ok)
	}
	if text, _ := textOfMoves(got); ok && text != s {
		t.Fatalf("ReadMoves(%q) = %v", s, got)
	}
}

func TestReadMoves(t *testing.T) {
	for _, s := range []string{
		"00", "01", "1 02", "+1", "-1", "1 -1", "-0", "8", "0 8", "9", "10", "1 10", "1  2", " 1", "1 ", " ", "  ", " 1 2", "1 2 ", "1\t2",
		"1\n2", "1\n", "1,2", "1, 2", "a", "1 a", "0x1", "1.0", "1 2 3 x", "\x00", "1\x002", "\xff", "1 \xff", "1\xff2", "\u0661", "1 \u0661",
		"1\u00a02", "\u20007", "0\u0120", "3\u00203", "\xe3\x80\x80", "99999999999999999999", "1 9223372036854775808", "\U00100030 1", "\u0130", "2 \u0132",
	} {
		checkReadMoves(t, s)
	}
	for _, length := range []int{118, 119, 120, 121, 122, 500, 100000} {
		checkReadMoves(t, strings.TrimSuffix(strings.Repeat("5 ", length), " "))
		checkReadMoves(t, strings.Repeat("5 ", length))
		checkReadMoves(t, strings.Repeat(" 5", length))
		checkReadMoves(t, strings.Repeat("5", length))
		checkReadMoves(t, strings.Repeat(" ", length))
	}
}

// TestReadMovesOfAllShortTexts has all texts of a few pieces.
func TestReadMovesOfAllShortTexts(t *testing.T) {
	pieces := []string{"0", "4", "7", "8", " ", "-", "+", "\n", "/", "\xff", "\u0660"}
	texts := []string{""}
	for range 5 {
		var longer []string
		for _, s := range texts {
			checkReadMoves(t, s)
			for _, piece := range pieces {
				longer = append(longer, s+piece)
			}
		}
		texts = longer
	}
}

// recordOf is the record of a game, by what the chapter says of it.
func recordOf(w playedGame) string {
	record := "rules " + strings.Join(wordsOfRules(w.game.Rules), " ") + "\nstart " + textOfPosition(w.game.Start) + "\n"
	for i, move := range w.game.Moves {
		record += fmt.Sprintf("%d. %d+%d\n", i+1, move, w.gains[i])
	}
	if w.game.Resigned >= 0 {
		record += fmt.Sprintf("resigns %d\n", w.game.Resigned)
	}
	return record
}

// checkRecord checks the record of a game.
func checkRecord(t *testing.T, w playedGame) {
	t.Helper()
	want := recordOf(w)
	if got := impl.RecordText(w.game); got != want {
		t.Fatalf("RecordText(%+v) = %q, want %q", w.game, got, want)
	}
	if got, ok := impl.ReadRecord(want); !ok || !equalGames(got, w.game) || !impl.ValidGame(got) {
		t.Fatalf("ReadRecord(%q) = %+v, %v, want %+v", want, got, ok, w.game)
	}
	if at, fault, code := impl.CheckRecord(want); at != -1 || fault != 0 || code != impl.OK {
		t.Fatalf("CheckRecord(%q) = %d, %d, %d", want, at, fault, code)
	}
}

// withResigned has a game, and those in which a player has resigned in it.
func withResigned(w playedGame) []playedGame {
	all := []playedGame{w}
	for player := range int64(2) {
		if given, code := w.given(player); code == impl.OK {
			all = append(all, given)
		}
	}
	return all
}

// recordedGames has games of all kinds, also those with all moves that are possible.
func recordedGames() []playedGame {
	games := append(playedGames(), circle(0), circle(1), circle(9), circle(10), circle(99), circle(100), circle(119), circle(120))
	var all []playedGame
	for _, w := range games {
		all = append(all, withResigned(w)...)
	}
	return all
}

func TestRecords(t *testing.T) {
	again, longest := 0, 0
	for _, w := range recordedGames() {
		checkRecord(t, w)
		longest = max(longest, len(recordOf(w)))
		for i := range w.movers {
			again += int(bit(w.history[i+1].Player == w.movers[i]))
		}
	}
	if again < 100 || longest > 4000 {
		t.Errorf("only %d moves were made by the same player as the next one; the longest record has %d bytes", again, longest)
	}
}

// TestRecordsOfEndedGames has games that have ended in each way, and go on.
func TestRecordsOfEndedGames(t *testing.T) {
	for _, c := range endCases() {
		w := c.game(t)
		checkRecord(t, w)
		for _, part := range withResigned(w.part(len(c.moves))) {
			checkRecord(t, part)
		}
	}
}

// recordCase has the lines of a record behind those of the rules and the start.
type recordCase struct {
	rules, start, lines string
	moves               []int64
	now                 string
	resigned            int64
}

func recordCases() []recordCase {
	const kalah, kalahStart = "pits=6 seeds=4 capture=cross slam=take stores again", "0 4,4,4,4,4,4/4,4,4,4,4,4 0,0"
	const mini, miniStart = "pits=3 seeds=2 capture=two-three slam=take feed", "0 2,2,2/2,2,2 0,0"
	const all = "pits=8 seeds=6 capture=even slam=nothing stores skip relay feed again"
	return []recordCase{
		// At the beginning, and from another position.
		{kalah, kalahStart, "", nil, kalahStart, -1},
		{mini, miniStart, "", nil, miniStart, -1},
		{mini, "1 1,0,2/0,3,0 4,2", "", nil, "1 1,0,2/0,3,0 4,2", -1},
		{all, "1 0,0,0,0,0,0,0,96/0,0,0,0,0,0,0,0 0,0", "", nil, "1 0,0,0,0,0,0,0,96/0,0,0,0,0,0,0,0 0,0", -1},
		{"pits=2 seeds=1 capture=none slam=forbid", "0 0,0/0,0 0,0", "", nil, "0 0,0/0,0 0,0", -1},
		// A player has resigned, with and without moves before, also one who is not to move.
		{mini, miniStart, "resigns 0\n", nil, miniStart, 0},
		{mini, miniStart, "resigns 1\n", nil, miniStart, 1},
		{kalah, kalahStart, "1. 2+1\nresigns 1\n", []int64{2}, "0 4,4,0,5,5,5/4,4,4,4,4,4 1,0", 1},
		{kalah, kalahStart, "1. 2+1\n2. 0+0\nresigns 0\n", []int64{2, 0}, "1 0,5,1,6,6,5/4,4,4,4,4,4 1,0", 0},
		// The same player moves again, or not, with and without gains.
		{kalah, kalahStart, "1. 2+1\n2. 0+0\n", []int64{2, 0}, "1 0,5,1,6,6,5/4,4,4,4,4,4 1,0", -1},
		{kalah, kalahStart, "1. 2+1\n2. 5+1\n3. 1+1\n4. 0+0\n", []int64{2, 5, 1, 0}, "0 4,4,0,5,5,0/0,1,7,7,6,6 2,1", -1},
		{mini, miniStart, "1. 2+6\n2. 2+6\n", []int64{2, 2}, "0 0,0,0/0,0,0 6,6", -1},
		{"pits=2 seeds=1 capture=none slam=take stores again", "1 0,1/1,1 3,4", "1. 1+1\n2. 0+0\n3. 1+1\n", []int64{1, 0, 1},
			"0 0,0/0,1 4,5", -1},
		{"pits=2 seeds=1 capture=cross slam=take stores", "0 5,0/0,0 2,1", "1. 0+3\n", []int64{0}, "1 0,1/1,0 5,1", -1},
		{"pits=2 seeds=1 capture=none slam=take stores", "1 0,0/0,96 0,0", "1. 1+20\n", []int64{1}, "0 19,19/19,19 0,20", -1},
	}
}

// text is the whole record.
func (c recordCase) text() string {
	return "rules " + c.rules + "\nstart " + c.start + "\n" + c.lines
}

func TestRecordsByHand(t *testing.T) {
	for _, c := range recordCases() {
		r, one := impl.ReadRules(c.rules)
		start, two := impl.ReadPosition(r, c.start)
		now, three := impl.ReadPosition(r, c.now)
		if !one || !two || !three {
			t.Fatalf("%+v cannot be read", c)
		}
		want := impl.Game{Rules: r, Start: start, Moves: c.moves, Now: now, Resigned: c.resigned}
		if got, ok := impl.ReadRecord(c.text()); !equalGames(got, want) || !ok {
			t.Errorf("ReadRecord(%q) = %+v, %v, want %+v", c.text(), got, ok, want)
		}
		if got := impl.RecordText(want); got != c.text() {
			t.Errorf("RecordText(%+v) = %q, want %q", want, got, c.text())
		}
		if at, fault, code := impl.CheckRecord(c.text()); at != -1 || fault != 0 || code != impl.OK {
			t.Errorf("CheckRecord(%q) = %d, %d, %d", c.text(), at, fault, code)
		}
	}
}

// checkFaulty checks that a text is no record, and what is told of it.
func checkFaulty(t *testing.T, s string, wantAt, wantFault int64) {
	t.Helper()
	if at, fault, code := impl.CheckRecord(s); at != wantAt || fault != wantFault || code != impl.OK {
		t.Errorf("CheckRecord(%q) = %d, %d, %d, want %d, %d", s, at, fault, code, wantAt, wantFault)
	}
	if g, ok := impl.ReadRecord(s); ok || !isZeroGame(g) {
		t.Errorf("ReadRecord(%q) = %+v, %v", s, g, ok)
	}
}

const (
	miniRulesLine = "rules pits=3 seeds=2 capture=two-three slam=take feed\n"
	miniStartLine = "start 0 2,2,2/2,2,2 0,0\n"
)

func TestFaultsOfTheRulesLine(t *testing.T) {
	start := miniStartLine + "1. 2+6\n"
	for _, line := range []string{
		"", "\n", " ", "x", "rules", "rules ", "rules\n", "rules \n", "start 0 2,2,2/2,2,2 0,0\n", "1. 2+6\n", "resigns 0\n",
		"rules mini\n", "rules  pits=3 seeds=2 capture=two-three slam=take feed\n", " rules pits=3 seeds=2 capture=two-three slam=take feed\n",
		"Rules pits=3 seeds=2 capture=two-three slam=take feed\n", "pits=3 seeds=2 capture=two-three slam=take feed\n",
		"rulespits=3 seeds=2 capture=two-three slam=take feed\n", "rules pits=3 seeds=2 capture=two-three slam=take feed \n",
		"rules\tpits=3 seeds=2 capture=two-three slam=take feed\n", "rules pits=3 seeds=2 capture=two-three slam=take feed\r\n",
		"rules pits=3 seeds=2 capture=two-three feed\n", "rules pits=3 seeds=2 feed slam=take capture=two-three\n", "rules pits=3 seeds=2\n",
		"rules pits=3  seeds=2 capture=two-three slam=take feed\n", "rules pits=03 seeds=2 capture=two-three slam=take feed\n",
		"rules pits=9 seeds=2 capture=two-three slam=take feed\n", "rules pits=1 seeds=2 capture=two-three slam=take feed\n",
		"rules pits=3 seeds=0 capture=two-three slam=take feed\n", "rules pits=3 seeds=7 capture=two-three slam=take feed\n",
		"rules pits=3 seeds=2 capture=two-three slam=take again\n", "rules pits=3 seeds=2 capture=two-three slam=take feed feed\n",
		"rules pits=3 seeds=2 capture=odd slam=take feed\n", "rules rules pits=3 seeds=2 capture=two-three slam=take feed\n",
		"rules pits=3 seeds=2 capture=two-three slam=take fee\n", "rules pits=3 seeds=2 capture=two-three slam=take feed\xff\n",
	} {
		checkFaulty(t, line, 0, impl.LineRules)
		checkFaulty(t, strings.TrimSuffix(line, "\n"), 0, impl.LineRules)
		checkFaulty(t, line+start, 0, impl.LineRules)
		checkFaulty(t, strings.TrimSuffix(line, "\n")+"\n"+start, 0, impl.LineRules)
		checkFaulty(t, "\n"+line+start, 0, impl.LineRules)
	}
	checkFaulty(t, miniRulesLine, 1, impl.LineStart)
	checkFaulty(t, strings.TrimSuffix(miniRulesLine, "\n"), 0, impl.LineEnd)
	checkFaulty(t, strings.TrimSuffix(miniRulesLine, "\n")+start, 0, impl.LineRules)
}

func TestFaultsOfTheStartLine(t *testing.T) {
	for _, line := range []string{
		"\n", " \n", "start\n", "start \n", "begin 0 2,2,2/2,2,2 0,0\n", "Start 0 2,2,2/2,2,2 0,0\n", "0 2,2,2/2,2,2 0,0\n",
		"start0 2,2,2/2,2,2 0,0\n", "start  0 2,2,2/2,2,2 0,0\n", " start 0 2,2,2/2,2,2 0,0\n", "start 0 2,2,2/2,2,2 0,0 \n",
		"start 0 2,2,2/2,2,2 0,0\r\n", "start\t0 2,2,2/2,2,2 0,0\n", "start 2 2,2,2/2,2,2 0,0\n", "start -1 2,2,2/2,2,2 0,0\n",
		"start 0 2,2,2,2/2,2,2,2 0,0\n", "start 0 2,2/2,2 0,0\n", "start 0 2,2,2,2,2,2 0,0\n", "start 0 2,2,2/2,2,2 0\n",
		"start 0 2,2,2/2,2,2 0,85\n", "start 0 97,0,0/0,0,0 0,0\n", "start 0 -1,2,2/2,2,2 0,0\n", "start 0 02,2,2/2,2,2 0,0\n",
		"start 00 2,2,2/2,2,2 0,0\n", "start start 0 2,2,2/2,2,2 0,0\n", "start 0 2,2,2/2,2,2 0,0\xff\n", "start \xff 2,2,2/2,2,2 0,0\n",
		miniRulesLine, "1. 2+6\n", "resigns 0\n", "resigns 1\n", "resigns 2\n", "start\n0 2,2,2/2,2,2 0,0\n",
	} {
		checkFaulty(t, miniRulesLine+line, 1, impl.LineStart)
		checkFaulty(t, miniRulesLine+line+"1. 2+6\n", 1, impl.LineStart)
		checkFaulty(t, miniRulesLine+line+miniStartLine, 1, impl.LineStart)
		if cut := strings.TrimSuffix(line, "\n"); cut != "" {
			checkFaulty(t, miniRulesLine+cut, 1, impl.LineStart)
		}
	}
	checkFaulty(t, miniRulesLine+strings.TrimSuffix(miniStartLine, "\n"), 1, impl.LineEnd)
	checkFaulty(t, miniRulesLine+strings.TrimSuffix(miniStartLine, "\n")+"1. 2+6\n", 1, impl.LineStart)
	// What is valid for other rules is not for these.
	other := "rules pits=2 seeds=2 capture=two-three slam=take feed\n"
	checkFaulty(t, other+miniStartLine, 1, impl.LineStart)
	checkFaulty(t, other+miniRulesLine+miniStartLine, 1, impl.LineStart)
}

// faultsOfThirdLine has lines behind the first move of mini, with the fault of each one if a newline follows, and without it.
func faultsOfThirdLine() map[string][2]int64 {
	const form, number, move, gain, end = impl.LineForm, impl.LineNumber, impl.LineMove, impl.LineGain, impl.LineEnd
	same := func(fault int64) [2]int64 { return [2]int64{fault, fault} }
	faults := map[string][2]int64{
		"2. 2+6": {0, end}, "resigns 0": {0, end}, "resigns 1": {0, end},
		"1. 2+6": same(number), "3. 2+6": same(number), "0. 2+6": same(number), "-2. 2+6": same(number), "22. 2+6": same(number),
		"999999999999999999. 2+6": same(number), "-999999999999999999. 2+6": same(number),
		// A pit that is empty, no pit, and other moves that do not exist.
		"2. 0+6": same(move), "2. 1+0": same(move), "2. 3+6": same(move), "2. -1+0": same(move), "2. 999999999999999999+0": same(move),
		"2. -999999999999999999+0": same(move), "2. 8+0": same(move),
		"2. 2+5": same(gain), "2. 2+7": same(gain), "2. 2+0": same(gain), "2. 2+-6": same(gain), "2. 2+999999999999999999": same(gain),
		"2. 2+66": same(gain),
		// The first one of two or more faults at once.
		"1. 0+6": same(number), "1. 2+5": same(number), "3. 9+9": same(number), "2. 0+5": same(move), "2. 9+-1": same(move), "-1. -1+-1": same(number),
		"02. 0+5": same(form), "3. 09+1": same(form), "1. 0+01": same(form),
	}
	for _, line := range []string{
		" ", "  ", "2", "2.", "2. ", "2. 2", "2. 2+", "2.2+6", "2 2+6", "2. +6", ". 2+6", " 2. 2+6", "2. 2+6 ", "2.  2+6", "2. 2 +6", "2. 2+ 6",
		"2 . 2+6", "2, 2+6", "2: 2+6", "2. 2-6", "2. 2 6", "2. 2/6", "2. 2+6+6", "2. 2++6", "2. +2+6", "+2. 2+6", "2. 2+6\r", "2. 2\t+6", "2.\t2+6",
		"2.. 2+6", "2. . 2+6", "2. 2. 2+6", "2. 2+6. 2+6", "2. 2+6 2+6", "02. 2+6", "2. 02+6", "2. 2+06", "-0. 2+6", "2. -0+6", "2. 2+-0", "00. 2+6",
		"1000000000000000000. 2+6", "2. 1000000000000000000+6", "2. 2+1000000000000000000", "2. 2+-1000000000000000000",
		"9223372036854775808. 2+6", "2. 2+18446744073709551622", "18446744073709551618. 2+6", "two. 2+6", "2. two+6", "2. 2+six", "2. 2+6x", "x2. 2+6",
		"2.0. 2+6", "2. 2.0+6", "2. 2+6.", "0x2. 2+6", "2. 0x2+6", "\u0662. 2+6", "2. 2+\uff16", "\xff", "2. 2+6\xff", "\xff2. 2+6", "2. \xff2+6", "2. 2+6\x00",
		"\x00", "resigns", "resigns ", "resigns 2", "resigns -1", "resigns 00", "resigns 01", "resigns +1", "resigns  0", " resigns 0", "resigns 0 ",
		"resigns 0\r", "resigns\t0", "resigns0", "Resigns 0", "resigns 10", "resigns 11", "resigns 0 1", "resign 0", "resigns x", "resigns 0\x00", "resigns \xff",
		"2. resigns 0", "2. resigns+0", "rules pits=3 seeds=2 capture=two-three slam=take feed", "start 0 2,2,2/2,2,2 0,0", "end", "#",
	} {
		faults[line] = same(form)
	}
	return faults
}

func TestFaultsOfOtherLines(t *testing.T) {
	begin := miniRulesLine + miniStartLine + "1. 2+6\n"
	for line, faults := range faultsOfThirdLine() {
		if faults[0] != 0 {
			checkFaulty(t, begin+line+"\n", 3, faults[0])
			// What follows does not matter.
			for _, more := range []string{"2. 2+6\n", "resigns 0\n", "\n", "\n\n", "x", miniRulesLine} {
				checkFaulty(t, begin+line+"\n"+more, 3, faults[0])
			}
		}
		checkFaulty(t, begin+line, 3, faults[1])
		checkFaulty(t, begin+"resigns 0\n"+line+"\n", 4, impl.LineEnd)
		checkFaulty(t, begin+"resigns 1\n"+line, 4, impl.LineEnd)
		checkFaulty(t, begin+"resigns 1\n"+line+"\n\n", 4, impl.LineEnd)
		// There is no legal move behind the second one.
		if faults[0] == impl.LineForm {
			checkFaulty(t, begin+"2. 2+6\n"+line, 4, impl.LineForm)
		}
	}
	for move := range int64(3) {
		checkFaulty(t, fmt.Sprintf("%s2. 2+6\n3. %d+0\n", begin, move), 4, impl.LineMove)
	}
}

// TestEmptyLines has them in each place; the last newline of a text is followed by no line.
func TestEmptyLines(t *testing.T) {
	head := miniRulesLine + miniStartLine
	checkFaulty(t, "", 0, impl.LineRules)
	checkFaulty(t, "\n", 0, impl.LineRules)
	checkFaulty(t, "\n\n", 0, impl.LineRules)
	checkFaulty(t, miniRulesLine+"\n", 1, impl.LineStart)
	checkFaulty(t, miniRulesLine+"\n"+miniStartLine, 1, impl.LineStart)
	checkFaulty(t, head+"\n", 2, impl.LineForm)
	checkFaulty(t, head+"\n\n", 2, impl.LineForm)
	checkFaulty(t, head+"\n1. 2+6\n", 2, impl.LineForm)
	checkFaulty(t, head+"1. 2+6\n\n", 3, impl.LineForm)
	checkFaulty(t, head+"1. 2+6\n\n\n", 3, impl.LineForm)
	checkFaulty(t, head+"1. 2+6\n\n2. 2+6\n", 3, impl.LineForm)
	checkFaulty(t, head+"1. 2+6\n\nresigns 0\n", 3, impl.LineForm)
	checkFaulty(t, head+"resigns 0\n\n", 3, impl.LineEnd)
	checkFaulty(t, head+"resigns 0\n\n\n", 3, impl.LineEnd)
	checkFaulty(t, head+"resigns 1\n\n1. 2+6\n", 3, impl.LineEnd)
	checkFaulty(t, head+"resigns 0\nresigns 0\n", 3, impl.LineEnd)
	checkFaulty(t, head+"resigns 0\nresigns 1", 3, impl.LineEnd)
	checkFaulty(t, head+"resigns 0\nresigns 2\n", 3, impl.LineEnd)
	checkFaulty(t, head+"1. 2+6\nresigns 1\n2. 2+6\n", 4, impl.LineEnd)
	checkFaulty(t, head+"1. 2+6\n2. 2+6\nresigns 0", 4, impl.LineEnd)
}

// TestMovesThatAreNotLegalInRecords has each fault of a move.
func TestMovesThatAreNotLegalInRecords(t *testing.T) {
	for _, c := range []struct {
		head        string
		move, fault int64
	}{
		{"rules pits=2 seeds=1 capture=none slam=take\nstart 0 0,1/1,0 0,0\n", 0, impl.ErrState},
		{"rules pits=2 seeds=1 capture=none slam=take\nstart 0 0,1/1,0 0,0\n", 2, impl.ErrRange},
		{"rules pits=2 seeds=1 capture=none slam=take\nstart 0 0,1/1,0 0,0\n", -1, impl.ErrRange},
		{"rules pits=3 seeds=1 capture=two-three slam=take feed\nstart 0 1,0,1/0,0,0 0,0\n", 0, impl.ErrIllegal},
		{"rules pits=2 seeds=1 capture=cross slam=forbid\nstart 0 1,0/2,0 0,0\n", 0, impl.ErrIllegal},
		{"rules pits=2 seeds=1 capture=none slam=take skip relay\nstart 1 0,0/4,6 0,0\n", 1, impl.ErrEndless},
	} {
		g, ok := impl.ReadRecord(c.head)
		if fault := impl.MoveFault(g.Rules, g.Start, c.move); !ok || fault != c.fault {
			t.Fatalf("%q is read as %+v, %v, with the fault %d", c.head, g, ok, fault)
		}
		for gain := range int64(3) {
			checkFaulty(t, fmt.Sprintf("%s1. %d+%d\n", c.head, c.move, gain), 2, impl.LineMove)
			checkFaulty(t, fmt.Sprintf("%s1. %d+%d", c.head, c.move, gain), 2, impl.LineMove)
		}
	}
}

func TestRecordsWithTheMostMoves(t *testing.T) {
	full := recordOf(circle(120))
	checkRecord(t, circle(120))
	checkFaulty(t, full+"121. 0+0\n", 122, impl.LineMove)
	checkFaulty(t, full+"121. 0+0", 122, impl.LineMove)
	checkFaulty(t, full+"121. 1+7\n", 122, impl.LineMove)
	checkFaulty(t, full+"120. 0+0\n", 122, impl.LineNumber)
	checkFaulty(t, full+"122. 0+0\n", 122, impl.LineNumber)
	checkFaulty(t, full+"121. 00+0\n", 122, impl.LineForm)
	checkFaulty(t, full+"resigns 1\n121. 0+0\n", 123, impl.LineEnd)
	checkFaulty(t, full+"121. 0+0\n122. 0+0\nresigns 1\n", 122, impl.LineMove)
	checkFaulty(t, recordOf(circle(119))+"120. 2+0\n", 121, impl.LineMove)
	checkFaulty(t, recordOf(circle(119))+"120. 1+1\n", 121, impl.LineGain)
	if g, ok := impl.ReadRecord(recordOf(circle(119)) + "120. 1+0\n"); !equalGames(g, circle(120).game) || !ok {
		t.Errorf("the last move is read as %+v, %v", g, ok)
	}
	if g, ok := impl.ReadRecord(full + "resigns 0\n"); g.Resigned != 0 || len(g.Moves) != 120 || !ok {
		t.Errorf("a game with the most moves that is resigned is read as %+v, %v", g, ok)
	}
}

func checkTooLong(t *testing.T, s string) {
	t.Helper()
	if at, fault, code := impl.CheckRecord(s); at != 0 || fault != 0 || code != impl.ErrFull {
		t.Errorf("CheckRecord of %d bytes = %d, %d, %d", len(s), at, fault, code)
	}
	if g, ok := impl.ReadRecord(s); ok || !isZeroGame(g) {
		t.Errorf("ReadRecord of %d bytes = %+v, %v", len(s), g, ok)
	}
}

// TestLongestRecords has texts with as many bytes as are allowed, and more.
func TestLongestRecords(t *testing.T) {
	head := miniRulesLine + miniStartLine
	cases := []struct {
		begin, rest string
		at, fault   int64
	}{
		{"", "x", 0, impl.LineRules},
		{"", "\n", 0, impl.LineRules},
		{"", "\xff", 0, impl.LineRules},
		{miniRulesLine, "\n", 1, impl.LineStart},
		{head, "\n", 2, impl.LineForm},
		{head, "9", 2, impl.LineForm},
		{head + "1. 2+6\n", "2. 2+6\n", 4, impl.LineNumber},
		{head + "resigns 0\n", "\n", 3, impl.LineEnd},
		{head + "resigns 0\n", "x", 3, impl.LineEnd},
		{recordOf(circle(120)), "\n", 122, impl.LineForm},
	}
	for _, c := range cases {
		long := c.begin + strings.Repeat(c.rest, 4100)
		for _, length := range []int{3000, 3999, 4000} {
			checkFaulty(t, long[:length], c.at, c.fault)
		}
		for _, length := range []int{4001, 4002, 4100} {
			checkTooLong(t, long[:length])
		}
	}
	checkTooLong(t, strings.Repeat("\n", 100000))
	checkTooLong(t, recordOf(circle(120))+strings.Repeat(" ", 4000))
}

// rulesByText has all rules, by their texts.
var rulesByText = sync.OnceValue(func() map[string]impl.Rules {
	all := map[string]impl.Rules{}
	eachRules(func(r impl.Rules) { all[strings.Join(wordsOfRules(r), " ")] = r })
	return all
})

// positionOfText reads a text of which readable says that it is that of a position.
func positionOfText(s string) impl.Position {
	words := strings.Fields(s)
	numbers := func(text string) []int64 {
		var list []int64
		for _, word := range strings.FieldsFunc(text, func(c rune) bool { return c == ',' || c == '/' }) {
			n, _ := strconv.ParseInt(word, 10, 64)
			list = append(list, n)
		}
		return list
	}
	return positionOf(numbers(words[0])[0], numbers(words[2]), numbers(words[1])...)
}

var (
	turnForm   = regexp.MustCompile(`\A(0|-?[1-9][0-9]{0,17})\. (0|-?[1-9][0-9]{0,17})\+(0|-?[1-9][0-9]{0,17})\z`)
	resignForm = regexp.MustCompile(`\Aresigns [01]\z`)
)

// expectRecord finds, in its own way, the game of a record, or the first line that is wrong and its fault.
func expectRecord(s string) (playedGame, int64, int64) {
	body, ended := strings.CutSuffix(s, "\n")
	lines := strings.Split(body, "\n")
	if s == "" {
		lines = nil
	}
	var w playedGame
	for i := range int64(max(len(lines), 2)) {
		if i >= int64(len(lines)) {
			return playedGame{}, i, 1 + i
		}
		fault := int64(0)
		w, fault = w.afterLine(i, lines[i])
		if fault == 0 && i == int64(len(lines))-1 && !ended {
			fault = 7
		}
		if fault != 0 {
			return playedGame{}, i, fault
		}
	}
	return w, -1, 0
}

// afterLine has the game after one line more of its record, or the fault of this line.
func (w playedGame) afterLine(i int64, line string) (playedGame, int64) {
	switch text := line[min(len(line), 6):]; {
	case i == 0:
		r, known := rulesByText()[text]
		w.game.Rules = r
		return w, bit(line[:len(line)-len(text)] != "rules " || !known)
	case i == 1:
		if line[:len(line)-len(text)] != "start " || !readable(w.game.Rules, text) {
			return w, 2
		}
		return beginGame(w.game.Rules, positionOfText(text)), 0
	case w.game.Resigned >= 0:
		return w, 7
	case resignForm.MatchString(line):
		w.game.Resigned = int64(line[8] - '0')
		return w, 0
	}
	parts := turnForm.FindStringSubmatch(line)
	if parts == nil {
		return w, 3
	}
	if parts[1] != strconv.FormatInt(i-1, 10) {
		return w, 4
	}
	move, _ := strconv.ParseInt(parts[2], 10, 64)
	next, code := w.after(move)
	if code != impl.OK {
		return w, 5
	}
	return next, 6 * bit(strconv.FormatInt(next.gains[i-2], 10) != parts[3])
}

// checkAnyRecord checks what is told of any text that is not too long, and returns the fault.
func checkAnyRecord(t *testing.T, s string) int64 {
	t.Helper()
	want, wantAt, wantFault := expectRecord(s)
	if at, fault, code := impl.CheckRecord(s); at != wantAt || fault != wantFault || code != impl.OK {
		t.Fatalf("CheckRecord(%q) = %d, %d, %d, want %d, %d", s, at, fault, code, wantAt, wantFault)
	}
	g, ok := impl.ReadRecord(s)
	if ok != (wantFault == 0) || !equalGames(g, want.game) {
		t.Fatalf("ReadRecord(%q) = %+v, %v, want %+v", s, g, ok, want.game)
	}
	if ok && impl.RecordText(g) != s {
		t.Fatalf("%q is read as a game with the record %q", s, impl.RecordText(g))
	}
	return wantFault
}

// shortRecords has records of few moves.
func shortRecords() []string {
	var all []string
	for _, c := range recordCases() {
		all = append(all, c.text())
	}
	return all
}

// TestChangedRecords is promise 10 for texts that differ from a record in one place.
func TestChangedRecords(t *testing.T) {
	pieces := []string{"", "0", "1", "2", "9", "+", "-", ".", " ", "\n", "\n\n", "r", "s", "\x00", "\xff", "\u0661"}
	var seen [8]int
	for _, good := range shortRecords() {
		for i := range len(good) + 1 {
			for _, piece := range pieces {
				seen[checkAnyRecord(t, good[:i]+piece+good[i:])]++
				if i < len(good) {
					seen[checkAnyRecord(t, good[:i]+piece+good[i+1:])]++
				}
			}
			seen[checkAnyRecord(t, good[:i])]++
			seen[checkAnyRecord(t, good[i:])]++
		}
	}
	if slices.Min(seen[:]) < 20 {
		t.Errorf("only so many texts had each fault: %v", seen)
	}
}

// TestRecordsOfOtherLines is promise 10 for texts whose lines are exchanged, left out, or taken from other records.
func TestRecordsOfOtherLines(t *testing.T) {
	random := rand.New(rand.NewSource(1010))
	var seen [8]int
	var games []playedGame
	for i, w := range recordedGames() {
		if i%5 == 0 {
			games = append(games, w)
		}
	}
	for range 6 {
		for _, w := range games {
			lines := strings.SplitAfter(recordOf(w), "\n")
			others := strings.SplitAfter(recordOf(games[random.Intn(len(games))]), "\n")
			for range 1 + random.Intn(2) {
				at, other := random.Intn(len(lines)), random.Intn(len(lines))
				switch random.Intn(7) {
				case 0:
					lines[at], lines[other] = lines[other], lines[at]
				case 1:
					lines = slices.Insert(lines, at, lines[other])
				case 2:
					lines[at] = others[random.Intn(len(others))]
				case 3:
					lines = slices.Insert(lines, at, []string{"\n", "resigns 0\n", "resigns 1\n", "1. 0+0\n", "x\n"}[random.Intn(5)])
				case 4:
					lines[at] = ""
				case 5:
					lines[at] = strings.Replace(lines[at], fmt.Sprintf(". %d+", random.Intn(8)), fmt.Sprintf(". %d+", random.Intn(8)), 1)
				default:
					lines[at] = strings.Replace(lines[at], "+0\n", "+1\n", 1)
				}
			}
			s := strings.Join(lines, "")
			if random.Intn(8) == 0 {
				s = strings.TrimSuffix(s, "\n")
			}
			seen[checkAnyRecord(t, s)]++
		}
	}
	if slices.Min(seen[:]) < 20 {
		t.Errorf("only so many texts had each fault: %v", seen)
	}
}

// TestRecordsAreReadJustIfNoLineIsWrong is promise 10, without what else is known of records.
func TestRecordsAreReadJustIfNoLineIsWrong(t *testing.T) {
	texts := shortRecords()
	for line := range faultsOfThirdLine() {
		texts = append(texts, miniRulesLine+miniStartLine+"1. 2+6\n"+line, miniRulesLine+miniStartLine+"1. 2+6\n"+line+"\n")
	}
	for _, w := range recordedGames() {
		if s := impl.RecordText(w.game); len(w.game.Moves) < 5 {
			texts = append(texts, s, s+"\n", s[1:], s[:len(s)-1], s+s, strings.Replace(s, "+0", "+2", 1))
		}
	}
	read := 0
	for _, s := range texts {
		g, ok := impl.ReadRecord(s)
		at, fault, code := impl.CheckRecord(s)
		read += int(bit(ok))
		if ok != (at == -1 && fault == 0) || ok == (at >= 0 && impl.LineFault(fault) != "") || code != impl.OK || ok != (impl.RecordText(g) == s) {
			t.Fatalf("%q: read %+v, %v; line %d, fault %d, %d", s, g, ok, at, fault, code)
		}
	}
	if read < 300 || len(texts)-read < 300 {
		t.Errorf("only %d of %d texts were read", read, len(texts))
	}
}

// checkNoRecord checks that nothing is told of a game that is not valid.
func checkNoRecord(t *testing.T, g impl.Game) {
	t.Helper()
	if s := impl.RecordText(g); s != "" {
		t.Fatalf("RecordText(%+v) = %q", g, s)
	}
	if notes, code := impl.NotesOn(g); len(notes) != 0 || code != impl.ErrInvalid {
		t.Fatalf("NotesOn(%+v) = %q, %d", g, notes, code)
	}
	if s, code := impl.SummaryOf(g); s != "" || code != impl.ErrInvalid {
		t.Fatalf("SummaryOf(%+v) = %q, %d", g, s, code)
	}
}

func TestRecordsOfInvalidGames(t *testing.T) {
	for _, w := range fewGames() {
		for player := range int64(3) {
			w.game.Resigned = player - 1
			for i, g := range invalidGames(w) {
				if i%3 == int(player) || len(g.Moves) < 2 {
					checkNoRecord(t, g)
				}
			}
		}
	}
	checkNoRecord(t, impl.Game{})
	checkNoRecord(t, impl.Game{Resigned: -1})
	for _, length := range []int{121, 124, 5000} {
		g := circle(120).game
		g.Moves = circleMoves(length)
		g.Now = clonePosition(circle(length % 4).game.Now)
		checkNoRecord(t, g)
	}
	for _, n := range []int64{math.MinInt64, -2, 2, math.MaxInt64} {
		g := circle(8).game
		g.Resigned = n
		checkNoRecord(t, g)
	}
}

// notesOf are the notes on a game, by what the chapter says of them.
func notesOf(w playedGame) []string {
	var notes []string
	for i, move := range w.game.Moves {
		note := fmt.Sprintf("player %d plays %d", w.movers[i], move)
		if w.gains[i] > 0 {
			note += fmt.Sprintf(", gains %d", w.gains[i])
		}
		if w.history[i+1].Player == w.movers[i] {
			note += ", moves again"
		}
		notes = append(notes, note)
	}
	return notes
}

// summaryOf is the line about a game, by what the chapter says of it.
func summaryOf(w playedGame) string {
	end, stores := w.end(), w.game.Now.Stores
	if end != 0 {
		final, _ := w.expectedFinal()
		stores = final.Stores
	}
	name := []string{"none", "resign", "majority", "blocked", "repeat", "length"}[end]
	return fmt.Sprintf("%d moves, %s, %d:%d", len(w.game.Moves), name, stores[0], stores[1])
}

func checkNotes(t *testing.T, w playedGame) {
	t.Helper()
	if notes, code := impl.NotesOn(w.game); !slices.Equal(notes, notesOf(w)) || code != impl.OK {
		t.Fatalf("NotesOn(%+v) = %q, %d, want %q", w.game, notes, code, notesOf(w))
	}
	if s, code := impl.SummaryOf(w.game); s != summaryOf(w) || code != impl.OK {
		t.Fatalf("SummaryOf(%+v) = %q, %d, want %q", w.game, s, code, summaryOf(w))
	}
}

func TestNotes(t *testing.T) {
	var gains, again, both, plain int
	var ends [6]int
	games := append(recordedGames(), endedGames()...)
	for _, c := range endCases() {
		games = append(games, c.game(t))
	}
	for _, w := range games {
		checkNotes(t, w)
		ends[w.end()]++
		for _, note := range notesOf(w) {
			gain, more := strings.Contains(note, "gains"), strings.Contains(note, "again")
			gains += int(bit(gain && !more))
			again += int(bit(more && !gain))
			both += int(bit(more && gain))
			plain += int(bit(!more && !gain))
		}
	}
	// Who moves again has sown into the store, which is a gain.
	if min(gains, both, plain) < 100 || again != 0 || slices.Min(ends[:]) < 2 {
		t.Errorf("only these were tried: %d, %d, %d, %d; ends %v", gains, again, both, plain, ends)
	}
}

func TestNotesByHand(t *testing.T) {
	kalah := "rules pits=6 seeds=4 capture=cross slam=take stores again\nstart 0 4,4,4,4,4,4/4,4,4,4,4,4 0,0\n"
	few := "rules pits=2 seeds=1 capture=none slam=take stores again\n"
	for _, c := range []struct {
		record  string
		notes   []string
		summary string
	}{
		{miniRulesLine + miniStartLine, nil, "0 moves, none, 0:0"},
		{miniRulesLine + miniStartLine + "1. 0+0\n", []string{"player 0 plays 0"}, "1 moves, none, 0:0"},
		{miniRulesLine + miniStartLine + "1. 2+6\n", []string{"player 0 plays 2, gains 6"}, "1 moves, none, 6:0"},
		{miniRulesLine + miniStartLine + "1. 2+6\n2. 2+6\n", []string{"player 0 plays 2, gains 6", "player 1 plays 2, gains 6"},
			"2 moves, blocked, 6:6"},
		{miniRulesLine + miniStartLine + "resigns 0\n", nil, "0 moves, resign, 0:12"},
		{miniRulesLine + miniStartLine + "1. 2+6\nresigns 1\n", []string{"player 0 plays 2, gains 6"}, "1 moves, resign, 12:0"},
		{kalah + "1. 2+1\n2. 0+0\n", []string{"player 0 plays 2, gains 1, moves again", "player 0 plays 0"}, "2 moves, none, 1:0"},
		{kalah + "1. 2+1\n2. 5+1\n3. 1+1\n4. 0+0\n", []string{"player 0 plays 2, gains 1, moves again", "player 0 plays 5, gains 1",
			"player 1 plays 1, gains 1, moves again", "player 1 plays 0"}, "4 moves, none, 2:1"},
		// A majority, by the stores at the end; nobody can move, and seeds are settled.
		{few + "start 0 1,1/1,0 2,0\n1. 1+1\n", []string{"player 0 plays 1, gains 1, moves again"}, "1 moves, majority, 4:1"},
		{few + "start 1 1,0/0,0 0,1\n", nil, "0 moves, blocked, 1:1"},
		{few + "start 1 2,0/0,0 30,40\n", nil, "0 moves, majority, 32:40"},
		{recordOf(circle(8)), slices.Repeat([]string{"player 0 plays 0", "player 1 plays 0", "player 0 plays 1", "player 1 plays 1"}, 2),
			"8 moves, repeat, 1:1"},
	} {
		g, ok := impl.ReadRecord(c.record)
		if !ok {
			t.Fatalf("%q is no record", c.record)
		}
		if notes, code := impl.NotesOn(g); !slices.Equal(notes, c.notes) || code != impl.OK {
			t.Errorf("NotesOn %q = %q, %d, want %q", c.record, notes, code, c.notes)
		}
		if s, code := impl.SummaryOf(g); s != c.summary || code != impl.OK {
			t.Errorf("SummaryOf %q = %q, %d, want %q", c.record, s, code, c.summary)
		}
	}
}

// TestExampleOfSummaries is the example of the chapter.
func TestExampleOfSummaries(t *testing.T) {
	g, _ := impl.NewGame(standardTable()["mini"])
	if s, code := impl.SummaryOf(g); s != "0 moves, none, 0:0" || code != impl.OK {
		t.Errorf("a new game of mini has the summary %q, %d", s, code)
	}
}

func TestRecordsOfNewGames(t *testing.T) {
	eachRules(func(r impl.Rules) {
		g, _ := impl.NewGame(r)
		w := beginGame(r, positionOf(0, []int64{0, 0}, slices.Repeat([]int64{r.Seeds}, int(2*r.Pits))...))
		if impl.RecordText(g) != recordOf(w) {
			t.Fatalf("RecordText(%+v) = %q", g, impl.RecordText(g))
		}
		if got, ok := impl.ReadRecord(recordOf(w)); !equalGames(got, g) || !ok {
			t.Fatalf("ReadRecord(%q) = %+v, %v", recordOf(w), got, ok)
		}
	})
}

func TestRecordsLeaveTheirArguments(t *testing.T) {
	for _, w := range fewGames() {
		given, _ := w.given(1)
		for i, g := range append(invalidGames(w), w.game, given.game) {
			if i%5 != 0 && !impl.ValidGame(g) {
				continue
			}
			one, same := spaciousGame(g)
			moves, unchanged := spacious(impl.Position{Pits: g.Moves})
			resultsOfRecords(one, moves.Pits, "", 1)
			if !same() || !unchanged() {
				t.Fatalf("%+v was changed", g)
			}
		}
	}
}

func TestRecordsAreNewMemory(t *testing.T) {
	for _, w := range append(fewGames(), circle(120)) {
		s := recordOf(w)
		first, _ := impl.ReadRecord(s)
		second, _ := impl.ReadRecord(s)
		checkApart(t, "ReadRecord", listsOf(first))
		if !equalGames(second, w.game) {
			t.Fatalf("ReadRecord(%q) shares memory: %+v", s, second)
		}
		checkGame(t, playedGame{game: second, history: w.history, movers: w.movers, gains: w.gains})
		g, unchanged := spaciousGame(w.game)
		notes, _ := impl.NotesOn(g)
		for i := range notes[:cap(notes)] {
			notes[:cap(notes)][i] = "-"
		}
		if again, _ := impl.NotesOn(g); !slices.Equal(again, notesOf(w)) || !unchanged() {
			t.Fatalf("NotesOn(%+v) shares memory", g)
		}
	}
}
