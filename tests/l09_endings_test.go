package tests

import (
	"math"
	"math/rand"
	"slices"
	"testing"

	"loop.example/g00926/impl"
)

func TestEndNames(t *testing.T) {
	kinds := []int64{impl.EndNone, impl.EndResign, impl.EndMajority, impl.EndBlocked, impl.EndRepeat, impl.EndLength}
	names := []string{"none", "resign", "majority", "blocked", "repeat", "length"}
	for i, name := range names {
		if kinds[i] != int64(i) || impl.EndName(int64(i)) != name {
			t.Errorf("the end %d is %d and has the name %q", i, kinds[i], impl.EndName(int64(i)))
		}
	}
	for _, kind := range append([]int64{6, 7, -2, 256, 257, 1<<32 + 1}, extremes...) {
		if name := impl.EndName(kind); name != "" {
			t.Errorf("EndName(%d) = %q", kind, name)
		}
	}
	if impl.MaxRepeats != 3 {
		t.Errorf("MaxRepeats is %d", impl.MaxRepeats)
	}
}

// expectedShares is what must be told of the seeds of a position, found pit by pit.
type expectedShares struct {
	majority int64
	needed   [2]int64
	lead     int64
	settled  impl.Position
	given    [2]impl.Position
}

func expectShares(r impl.Rules, p impl.Position) expectedShares {
	all := bigSum(numbersOf(p)).Int64()
	empty := make([]int64, 2*r.Pits)
	want := expectedShares{
		majority: -1,
		lead:     p.Stores[0] - p.Stores[1],
		settled:  positionOf(p.Player, slices.Clone(p.Stores), empty...),
	}
	for pit, seeds := range p.Pits {
		want.settled.Stores[int64(pit)/r.Pits] += seeds
	}
	for player := range int64(2) {
		for 2*(p.Stores[player]+want.needed[player]) <= all {
			want.needed[player]++
		}
		if 2*p.Stores[player] > all {
			want.majority = player
		}
		stores := slices.Clone(p.Stores)
		stores[player] = all - stores[1-player]
		want.given[player] = positionOf(p.Player, stores, empty...)
	}
	return want
}

func checkShares(t *testing.T, r impl.Rules, p impl.Position, want expectedShares) {
	t.Helper()
	if got, code := impl.MajorityOf(r, p); got != want.majority || code != impl.OK {
		t.Fatalf("%+v: MajorityOf(%+v) = %d, %d, want %d", r, p, got, code, want.majority)
	}
	if got, code := impl.LeadOf(r, p); got != want.lead || code != impl.OK {
		t.Fatalf("%+v: LeadOf(%+v) = %d, %d, want %d", r, p, got, code, want.lead)
	}
	if got, code := impl.SettlePosition(r, p); !sameNumbers(got, want.settled) || code != impl.OK {
		t.Fatalf("%+v: SettlePosition(%+v) = %+v, %d, want %+v", r, p, got, code, want.settled)
	}
	for player := range int64(2) {
		if got, code := impl.NeededFor(r, p, player); got != want.needed[player] || code != impl.OK {
			t.Fatalf("%+v: NeededFor(%+v, %d) = %d, %d, want %d", r, p, player, got, code, want.needed[player])
		}
		if got, code := impl.GivePosition(r, p, player); !sameNumbers(got, want.given[player]) || code != impl.OK {
			t.Fatalf("%+v: GivePosition(%+v, %d) = %+v, %d, want %+v", r, p, player, got, code, want.given[player])
		}
	}
	checkNoPlayers(t, r, p, impl.ErrRange)
}

// checkNoPlayers checks the error for numbers that are no players.
func checkNoPlayers(t *testing.T, r impl.Rules, p impl.Position, want int64) {
	t.Helper()
	for _, player := range append([]int64{-2, 2, 3, 256}, extremes...) {
		if got, code := impl.NeededFor(r, p, player); got != 0 || code != want {
			t.Fatalf("%+v: NeededFor(%+v, %d) = %d, %d", r, p, player, got, code)
		}
		if got, code := impl.GivePosition(r, p, player); !isZeroPosition(got) || code != want {
			t.Fatalf("%+v: GivePosition(%+v, %d) = %+v, %d", r, p, player, got, code)
		}
	}
}

func TestSharesExample(t *testing.T) {
	r := standardTable()["mini"]
	for _, p := range []impl.Position{positionOf(0, []int64{6, 0}, 1, 1, 1, 1, 1, 1), positionOf(1, []int64{6, 6}, make([]int64, 6)...)} {
		if n, code := impl.NeededFor(r, p, 0); n != 1 || code != impl.OK {
			t.Errorf("a player with 6 of 12 seeds needs %d, %d", n, code)
		}
	}
}

// shareCase has the text of a position of two pits for each player, and of the positions in which it is settled and given.
type shareCase struct {
	text     string
	majority int64
	needed   [2]int64
	lead     int64
	settled  string
	given    [2]string
}

func shareCases() []shareCase {
	return []shareCase{
		// Exactly half of all seeds, and one seed more.
		{"0 1,2/2,1 6,0", -1, [2]int64{1, 7}, 6, "0 0,0/0,0 9,3", [2]string{"0 0,0/0,0 12,0", "0 0,0/0,0 6,6"}},
		{"1 1,2/2,0 0,5", -1, [2]int64{6, 1}, -5, "1 0,0/0,0 3,7", [2]string{"1 0,0/0,0 5,5", "1 0,0/0,0 0,10"}},
		{"0 1,2/2,0 7,0", 0, [2]int64{0, 7}, 7, "0 0,0/0,0 10,2", [2]string{"0 0,0/0,0 12,0", "0 0,0/0,0 7,5"}},
		{"1 1,2/1,0 0,6", 1, [2]int64{6, 0}, -6, "1 0,0/0,0 3,7", [2]string{"1 0,0/0,0 4,6", "1 0,0/0,0 0,10"}},
		{"0 0,0/0,0 4,4", -1, [2]int64{1, 1}, 0, "0 0,0/0,0 4,4", [2]string{"0 0,0/0,0 4,4", "0 0,0/0,0 4,4"}},
		// An odd number of seeds.
		{"0 1,2/2,0 4,2", -1, [2]int64{2, 4}, 2, "0 0,0/0,0 7,4", [2]string{"0 0,0/0,0 9,2", "0 0,0/0,0 4,7"}},
		{"0 1,2/1,0 5,2", -1, [2]int64{1, 4}, 3, "0 0,0/0,0 8,3", [2]string{"0 0,0/0,0 9,2", "0 0,0/0,0 5,6"}},
		{"1 1,2/1,0 6,1", 0, [2]int64{0, 5}, 5, "1 0,0/0,0 9,2", [2]string{"1 0,0/0,0 10,1", "1 0,0/0,0 6,5"}},
		{"1 0,0/0,0 4,5", 1, [2]int64{1, 0}, -1, "1 0,0/0,0 4,5", [2]string{"1 0,0/0,0 4,5", "1 0,0/0,0 4,5"}},
		{"0 0,1/0,0 0,0", -1, [2]int64{1, 1}, 0, "0 0,0/0,0 1,0", [2]string{"0 0,0/0,0 1,0", "0 0,0/0,0 0,1"}},
		{"0 0,0/0,0 0,1", 1, [2]int64{1, 0}, -1, "0 0,0/0,0 0,1", [2]string{"0 0,0/0,0 0,1", "0 0,0/0,0 0,1"}},
		// No seeds, and all that may be there.
		{"1 0,0/0,0 0,0", -1, [2]int64{1, 1}, 0, "1 0,0/0,0 0,0", [2]string{"1 0,0/0,0 0,0", "1 0,0/0,0 0,0"}},
		{"0 0,0/0,0 96,0", 0, [2]int64{0, 49}, 96, "0 0,0/0,0 96,0", [2]string{"0 0,0/0,0 96,0", "0 0,0/0,0 96,0"}},
		{"0 0,0/0,48 0,48", -1, [2]int64{49, 1}, -48, "0 0,0/0,0 0,96", [2]string{"0 0,0/0,0 48,48", "0 0,0/0,0 0,96"}},
		{"1 96,0/0,0 0,0", -1, [2]int64{49, 49}, 0, "1 0,0/0,0 96,0", [2]string{"1 0,0/0,0 96,0", "1 0,0/0,0 0,96"}},
		// Seeds on one side only.
		{"0 0,3/0,0 2,2", -1, [2]int64{2, 2}, 0, "0 0,0/0,0 5,2", [2]string{"0 0,0/0,0 5,2", "0 0,0/0,0 2,5"}},
		{"0 0,0/4,1 2,3", -1, [2]int64{4, 3}, -1, "0 0,0/0,0 2,8", [2]string{"0 0,0/0,0 7,3", "0 0,0/0,0 2,8"}},
	}
}

func TestSharesByHand(t *testing.T) {
	r := impl.Rules{Pits: 2, Seeds: 1}
	read := func(text string) impl.Position {
		p, ok := impl.ReadPosition(r, text)
		if !ok {
			t.Fatalf("%q cannot be read", text)
		}
		return p
	}
	for _, c := range shareCases() {
		want := expectedShares{c.majority, c.needed, c.lead, read(c.settled), [2]impl.Position{read(c.given[0]), read(c.given[1])}}
		checkShares(t, r, read(c.text), want)
		// The seeds at the beginning and the other rules have nothing to do with it.
		other := impl.Rules{Pits: 2, Seeds: 6, Stores: true, Skip: true, Relay: true, Feed: true, Again: true, Capture: 3, Slam: 1}
		checkShares(t, other, read(c.text), want)
	}
}

// seenShares counts what was tried.
type seenShares struct {
	leader [2]int
	half   [2]int
	odd    int
	lacks  int
	side   [2]int
	none   int
}

func (s *seenShares) add(r impl.Rules, p impl.Position) {
	all := bigSum(numbersOf(p)).Int64()
	s.odd += int(all % 2)
	s.none += int(bit(all == 0))
	for player := range int64(2) {
		s.leader[player] += int(bit(2*p.Stores[player] > all))
		s.half[player] += int(bit(2*p.Stores[player] == all))
		s.lacks += int(bit(2*p.Stores[player] <= all && 2*(p.Stores[player]+1) > all))
		s.side[player] += int(bit(emptySide(r, p.Pits, player) && !emptySide(r, p.Pits, 1-player)))
	}
}

// TestShares compares all functions with what is found pit by pit.
func TestShares(t *testing.T) {
	var seen seenShares
	for _, r := range append(boards(), someMoveRules()...) {
		for _, p := range append(validPositions(r), movePositions(r)...) {
			seen.add(r, p)
			checkShares(t, r, p, expectShares(r, p))
		}
	}
	if min(seen.leader[0], seen.leader[1], seen.half[0], seen.half[1], seen.odd, seen.lacks, seen.side[0], seen.side[1], seen.none) < 50 {
		t.Errorf("only these were tried: %+v", seen)
	}
}

// TestAllShares has all positions of up to six seeds in two pits for each player.
func TestAllShares(t *testing.T) {
	r := impl.Rules{Pits: 2, Seeds: 1}
	var fill func(list []int64, left int64)
	fill = func(list []int64, left int64) {
		if len(list) == 6 {
			p := positionOf(left%2, slices.Clone(list[4:]), list[:4:4]...)
			checkShares(t, r, p, expectShares(r, p))
			return
		}
		for n := range left + 1 {
			fill(append(list, n), left-n)
		}
	}
	fill(make([]int64, 0, 6), 6)
}

// TestSettledTwice settles and gives positions again, and on the turned board.
func TestSettledTwice(t *testing.T) {
	for _, r := range boards() {
		for _, p := range validPositions(r) {
			settled, _ := impl.SettlePosition(r, p)
			checkNothingLeft(t, r, p, settled)
			if other, code := impl.SettlePosition(r, turned(p)); !sameNumbers(other, turned(settled)) || code != impl.OK {
				t.Fatalf("%+v: %+v is settled to %+v, the turned board to %+v, %d", r, p, settled, other, code)
			}
			for player := range int64(2) {
				given, _ := impl.GivePosition(r, p, player)
				checkNothingLeft(t, r, p, given)
				if other, code := impl.GivePosition(r, turned(p), 1-player); !sameNumbers(other, turned(given)) || code != impl.OK {
					t.Fatalf("%+v: %+v is given as %+v, the turned board as %+v, %d", r, p, given, other, code)
				}
			}
		}
	}
}

// checkNothingLeft checks that after has all seeds of p, none of them in pits, so that it cannot be settled or given any more.
func checkNothingLeft(t *testing.T, r impl.Rules, p, after impl.Position) {
	t.Helper()
	if n, code := impl.SeedsOn(r, after); n != 0 || code != impl.OK || bigSum(after.Stores).Cmp(bigSum(numbersOf(p))) != 0 {
		t.Fatalf("%+v: %+v becomes %+v", r, p, after)
	}
	again, code := impl.SettlePosition(r, after)
	if !sameNumbers(again, after) || code != impl.OK {
		t.Fatalf("%+v: %+v is settled to %+v, %d", r, after, again, code)
	}
	for player := range int64(2) {
		again, code := impl.GivePosition(r, after, player)
		if !sameNumbers(again, after) || code != impl.OK {
			t.Fatalf("%+v: %+v is given as %+v, %d", r, after, again, code)
		}
	}
}

func TestSharesOfInvalidPositions(t *testing.T) {
	invalidPairs(func(r impl.Rules, p impl.Position) {
		if got, code := impl.MajorityOf(r, p); got != 0 || code != impl.ErrInvalid {
			t.Errorf("%+v: MajorityOf(%+v) = %d, %d", r, p, got, code)
		}
		if got, code := impl.LeadOf(r, p); got != 0 || code != impl.ErrInvalid {
			t.Errorf("%+v: LeadOf(%+v) = %d, %d", r, p, got, code)
		}
		if got, code := impl.SettlePosition(r, p); !isZeroPosition(got) || code != impl.ErrInvalid {
			t.Errorf("%+v: SettlePosition(%+v) = %+v, %d", r, p, got, code)
		}
		for player := range int64(2) {
			if got, code := impl.NeededFor(r, p, player); got != 0 || code != impl.ErrInvalid {
				t.Errorf("%+v: NeededFor(%+v, %d) = %d, %d", r, p, player, got, code)
			}
			if got, code := impl.GivePosition(r, p, player); !isZeroPosition(got) || code != impl.ErrInvalid {
				t.Errorf("%+v: GivePosition(%+v, %d) = %+v, %d", r, p, player, got, code)
			}
		}
		checkNoPlayers(t, r, p, impl.ErrInvalid)
	})
}

// endsOf has all ends of a game that apply, the first one of the table first.
func (w playedGame) endsOf() []int64 {
	_, results := expectTurns(w.game.Rules, w.game.Now)
	applies := []bool{
		1: w.game.Resigned != -1,
		2: expectShares(w.game.Rules, w.game.Now).majority != -1,
		3: len(results) == 0,
		4: w.repeats() >= 3,
		5: len(w.game.Moves) == 120,
	}
	var ends []int64
	for end, yes := range applies {
		if yes {
			ends = append(ends, int64(end))
		}
	}
	return ends
}

// end has the first end that applies.
func (w playedGame) end() int64 {
	return append(w.endsOf(), 0)[0]
}

// part has the first moves of a game in which nobody has resigned.
func (w playedGame) part(made int) playedGame {
	w.movers, w.gains, w.history = w.movers[:made], w.gains[:made], w.history[:made+1]
	w.game.Moves, w.game.Now, w.game.Resigned = w.game.Moves[:made], clonePosition(w.history[made]), -1
	return w
}

// cut is what must come of CutGame.
func (w playedGame) cut() playedGame {
	for made := range len(w.game.Moves) + 1 {
		if part := w.part(made); part.end() != 0 {
			return part
		}
	}
	return w
}

// expectedFinal has the final position of a game that has ended, and its winner.
func (w playedGame) expectedFinal() (impl.Position, int64) {
	shares := expectShares(w.game.Rules, w.game.Now)
	if w.game.Resigned != -1 {
		winner := 1 - w.game.Resigned
		return shares.given[winner], winner
	}
	switch scores := shares.settled.Stores; {
	case scores[0] > scores[1]:
		return shares.settled, 0
	case scores[0] < scores[1]:
		return shares.settled, 1
	}
	return shares.settled, -1
}

// checkEnding checks the end of a game, and where the game is cut.
func checkEnding(t *testing.T, w playedGame) {
	t.Helper()
	want := w.end()
	if got, code := impl.EndOf(w.game); got != want || code != impl.OK {
		t.Fatalf("EndOf(%+v) = %d, %d, want %d", w.game, got, code, want)
	}
	if want == 0 {
		checkNoFinal(t, w.game, impl.ErrState)
	} else {
		final, winner := w.expectedFinal()
		checkFinal(t, w.game, final, winner)
	}
	cut := w.cut()
	got, code := impl.CutGame(w.game)
	checkGot(t, "CutGame", w.game, got, code, cut, impl.OK)
	if again, code := impl.CutGame(got); !equalGames(again, got) || code != impl.OK {
		t.Fatalf("%+v is cut to %+v, and then to %+v, %d", w.game, got, again, code)
	}
	if end, code := impl.EndOf(got); end != cut.end() || code != impl.OK {
		t.Fatalf("%+v is cut to %+v, with the end %d, %d", w.game, got, end, code)
	}
}

func checkFinal(t *testing.T, g impl.Game, final impl.Position, winner int64) {
	t.Helper()
	if got, code := impl.FinalPosition(g); !sameNumbers(got, final) || code != impl.OK {
		t.Fatalf("FinalPosition(%+v) = %+v, %d, want %+v", g, got, code, final)
	}
	if got, code := impl.ScoresOf(g); !slices.Equal(got, final.Stores) || code != impl.OK {
		t.Fatalf("ScoresOf(%+v) = %v, %d, want %v", g, got, code, final.Stores)
	}
	if got, code := impl.WinnerOf(g); got != winner || code != impl.OK {
		t.Fatalf("WinnerOf(%+v) = %d, %d, want %d", g, got, code, winner)
	}
}

// checkNoFinal checks that no scores are told, but an error.
func checkNoFinal(t *testing.T, g impl.Game, want int64) {
	t.Helper()
	if got, code := impl.FinalPosition(g); !isZeroPosition(got) || code != want {
		t.Fatalf("FinalPosition(%+v) = %+v, %d, want %d", g, got, code, want)
	}
	if got, code := impl.ScoresOf(g); len(got) != 0 || code != want {
		t.Fatalf("ScoresOf(%+v) = %v, %d, want %d", g, got, code, want)
	}
	if got, code := impl.WinnerOf(g); got != 0 || code != want {
		t.Fatalf("WinnerOf(%+v) = %d, %d, want %d", g, got, code, want)
	}
}

// checkEndings also checks the games in which a player has resigned.
func checkEndings(t *testing.T, w playedGame) {
	t.Helper()
	checkEnding(t, w)
	for player := range int64(2) {
		given, _ := w.given(player)
		checkEnding(t, given)
	}
}

// These are the moves of games that have not ended before the last one of their 120 moves.
const (
	lengthMoves   = "130220330010310310310021301201231030220330112312233102230032102102301311230223310310012231100332100311022113200112300112"
	repeatMoves   = "002112102001021120021122002011200112100112210200112201221001221122000120102100121102211200102112200201201122102102201021"
	blockedMoves  = "200112001122011221020002011120022001120011001122211001220020111021022102112200020110221021201211021001210220112002011121"
	majorityMoves = "301102132011022013011233011223011223001223310200133021123310012110322003310011330012031122031122001123023311203002110213"
	takenMoves    = "020311312030020311302102301311220310213200122311320021321021331001203112200132131001201130220331031200312312200301122333"
)

// endCase has the text of the first position of a game, the digits of its moves, all ends that apply, and the text of the final position.
type endCase struct {
	rules, start, moves string
	resigned            int64
	ends                []int64
	final               string
	winner              int64
	cut                 int
}

// endCases has the cases of all kinds.
func endCases() []endCase {
	return slices.Concat(openCases(), blockedCases(), longCases(), givenCases())
}

// openCases have games that have not ended, or have ended with a majority.
func openCases() []endCase {
	return []endCase{
		// Not ended: at the beginning; a position comes again; one move less than the limit.
		{"pits=2", "0 1,0/1,0 0,0", "", -1, nil, "", 0, 0},
		{"pits=2", "0 1,0/1,0 0,0", "0011", -1, nil, "", 0, 4},
		{"pits=2", "0 1,0/1,0 0,0", "0011001", -1, nil, "", 0, 7},
		{"pits=4", "0 0,1,0,0/0,1,1,3 0,0", lengthMoves[:119], -1, nil, "", 0, 119},
		{"pits=3", "0 2,1,0/1,0,1 0,0", repeatMoves[:119], -1, nil, "", 0, 119},
		// Half of all seeds, also of an odd number, is no majority.
		{"pits=2", "0 1,0/1,0 2,0", "", -1, nil, "", 0, 0},
		{"pits=2", "0 1,0/0,1 0,2", "", -1, nil, "", 0, 0},
		{"pits=2", "1 1,0/1,1 1,3", "", -1, nil, "", 0, 0},
		// A majority, at the beginning and by a move; the game goes on, or does not.
		{"pits=2", "0 1,0/1,0 3,0", "", -1, []int64{2}, "0 0,0/0,0 4,1", 0, 0},
		{"pits=2", "1 2,0/1,0 0,4", "", -1, []int64{2}, "1 0,0/0,0 2,5", 1, 0},
		{"pits=2", "0 1,0/1,0 3,0", "001", -1, []int64{2}, "1 0,0/0,0 3,2", 0, 0},
		{"pits=2 stores", "0 1,1/1,1 2,2", "1", -1, nil, "", 0, 1},
		{"pits=2 stores", "0 1,1/1,0 2,1", "1", -1, nil, "", 0, 1},
		{"pits=2 stores", "0 1,1/1,0 2,0", "1", -1, []int64{2}, "1 0,0/0,0 4,1", 0, 1},
		{"pits=2 stores", "0 1,1/1,0 2,0", "100", -1, []int64{2}, "1 0,0/0,0 4,1", 0, 1},
		{"pits=3 capture=two-three feed", "0 2,2,2/2,2,2 0,0", "2", -1, nil, "", 0, 1},
		{"pits=3 capture=two-three feed", "0 2,2,2/2,2,2 0,1", "22", -1, []int64{2, 3}, "0 0,0,0/0,0,0 6,7", 1, 2},
	}
}

// blockedCases have games in which nobody can move at last.
func blockedCases() []endCase {
	return []endCase{
		// Nobody can move: no seeds at all, none on the side, no seeds to feed, or only moves that are slams or endless.
		{"pits=2", "0 0,0/0,0 0,0", "", -1, []int64{3}, "0 0,0/0,0 0,0", -1, 0},
		{"pits=2", "1 0,0/0,0 7,7", "", -1, []int64{3}, "1 0,0/0,0 7,7", -1, 0},
		{"pits=2", "0 0,0/1,0 0,0", "", -1, []int64{3}, "0 0,0/0,0 0,1", 1, 0},
		{"pits=2", "1 2,0/0,0 1,1", "", -1, []int64{3}, "1 0,0/0,0 3,1", 0, 0},
		{"pits=2", "1 2,0/0,0 0,2", "", -1, []int64{3}, "1 0,0/0,0 2,2", -1, 0},
		{"pits=2 feed", "0 1,0/0,0 0,0", "", -1, []int64{3}, "0 0,0/0,0 1,0", 0, 0},
		{"pits=2 capture=even slam=forbid", "0 0,1/3,0 0,0", "", -1, []int64{3}, "0 0,0/0,0 1,3", 1, 0},
		{"pits=2 relay", "0 2,0/2,1 0,0", "", -1, []int64{3}, "0 0,0/0,0 2,3", 1, 0},
		{"pits=2", "0 1,0/1,0 0,0", "0010", -1, []int64{3}, "0 0,0/0,0 0,2", 1, 4},
		// And a player has a majority.
		{"pits=2", "0 0,0/1,0 0,1", "", -1, []int64{3}, "0 0,0/0,0 0,2", 1, 0},
		{"pits=2", "0 0,0/1,0 0,2", "", -1, []int64{2, 3}, "0 0,0/0,0 0,3", 1, 0},
		{"pits=2", "0 0,0/1,0 2,0", "", -1, []int64{2, 3}, "0 0,0/0,0 2,1", 0, 0},
		{"pits=2", "1 0,0/0,0 5,6", "", -1, []int64{2, 3}, "1 0,0/0,0 5,6", 1, 0},
		{"pits=2", "0 1,0/1,0 0,3", "0010", -1, []int64{2, 3}, "0 0,0/0,0 0,5", 1, 0},
	}
}

// longCases have games in which positions come again, or that have all moves that are possible.
func longCases() []endCase {
	return []endCase{
		// A position comes for the third time, and again; the first position, another one, and with a majority.
		{"pits=2", "0 1,0/1,0 0,0", "00110011", -1, []int64{4}, "0 0,0/0,0 1,1", -1, 8},
		{"pits=2", "0 1,0/1,0 0,0", "001100110", -1, []int64{4}, "1 0,0/0,0 1,1", -1, 8},
		{"pits=2", "0 1,0/1,0 0,0", "001100110011", -1, []int64{4}, "0 0,0/0,0 1,1", -1, 8},
		{"pits=2", "0 1,1/0,1 0,0", "110010011", -1, []int64{4}, "1 0,0/0,0 1,2", 1, 9},
		{"pits=2", "0 1,0/1,0 0,3", "00110011", -1, []int64{2, 4}, "0 0,0/0,0 1,4", 1, 0},
		{"pits=2", "0 1,0/1,0 1,3", "001100110", -1, []int64{4}, "1 0,0/0,0 2,4", 1, 8},
		// It has come for the third time before, but that of now has not. A position without legal moves never comes again.
		{"pits=2", "0 1,1/0,1 0,0", "1100100110", -1, nil, "", 0, 9},
		{"pits=2", "0 0,1/0,1 0,0", "1100110010", -1, []int64{3}, "0 0,0/0,0 0,2", 1, 8},
		// The last move that is possible, alone and with other ends.
		{"pits=4", "0 0,1,0,0/0,1,1,3 0,0", lengthMoves, -1, []int64{5}, "0 0,0,0,0/0,0,0,0 3,3", -1, 120},
		{"pits=4", "0 0,1,0,0/0,1,1,3 1,0", lengthMoves, -1, []int64{5}, "0 0,0,0,0/0,0,0,0 4,3", 0, 120},
		{"pits=4", "0 0,1,0,0/0,1,1,3 0,7", lengthMoves, -1, []int64{2, 5}, "0 0,0,0,0/0,0,0,0 3,10", 1, 0},
		{"pits=3", "0 2,1,0/1,0,1 0,0", repeatMoves, -1, []int64{4, 5}, "0 0,0,0/0,0,0 2,3", 1, 120},
		{"pits=3", "0 2,1,0/1,0,1 9,0", repeatMoves, -1, []int64{2, 4, 5}, "0 0,0,0/0,0,0 11,3", 0, 0},
		{"pits=3", "0 2,1,1/2,0,0 0,0", blockedMoves, -1, []int64{3, 5}, "0 0,0,0/0,0,0 0,6", 1, 120},
		{"pits=4 capture=two-three", "0 0,1,0,1/3,0,0,0 0,0", majorityMoves, -1, []int64{2, 5}, "0 0,0,0,0/0,0,0,0 2,3", 1, 120},
		{"pits=4 capture=two-three", "0 1,0,0,1/0,1,2,0 0,2", takenMoves, -1, []int64{2, 3, 5}, "0 0,0,0,0/0,0,0,0 0,7", 1, 120},
	}
}

// givenCases have games in which a player has resigned.
func givenCases() []endCase {
	return []endCase{
		{"pits=2", "0 1,0/1,0 0,0", "", 0, []int64{1}, "0 0,0/0,0 0,2", 1, 0},
		{"pits=2", "0 1,0/1,0 0,0", "", 1, []int64{1}, "0 0,0/0,0 2,0", 0, 0},
		{"pits=2", "0 1,0/1,2 0,1", "001", 0, []int64{1}, "1 0,0/0,0 0,5", 1, 3},
		{"pits=2", "0 1,0/1,2 0,1", "001", 1, []int64{1}, "1 0,0/0,0 4,1", 0, 3},
		// The player who resigns wins nothing, whatever is in the stores.
		{"pits=2", "0 1,0/1,0 9,0", "", 0, []int64{1, 2}, "0 0,0/0,0 9,2", 1, 0},
		{"pits=2", "0 1,0/1,0 0,9", "00", 1, []int64{1, 2}, "0 0,0/0,0 2,9", 0, 0},
		{"pits=2", "0 0,0/0,0 0,0", "", 1, []int64{1, 3}, "0 0,0/0,0 0,0", 0, 0},
		{"pits=2", "1 0,0/0,0 4,4", "", 0, []int64{1, 3}, "1 0,0/0,0 4,4", 1, 0},
		{"pits=2", "0 0,0/3,0 5,0", "", 0, []int64{1, 2, 3}, "0 0,0/0,0 5,3", 1, 0},
		{"pits=2", "0 1,0/1,0 0,0", "0010", 1, []int64{1, 3}, "0 0,0/0,0 2,0", 0, 4},
		// A majority by the move before the last one, by the last one, and not yet.
		{"pits=2 stores", "0 1,1/1,0 2,0", "100", 0, []int64{1, 2}, "1 0,0/0,0 3,2", 1, 1},
		{"pits=2 stores", "0 1,1/1,0 2,0", "1", 1, []int64{1, 2}, "1 0,0/0,0 5,0", 0, 1},
		{"pits=2 stores", "0 1,1/1,0 2,1", "1", 1, []int64{1}, "1 0,0/0,0 5,1", 0, 1},
		{"pits=2", "0 1,0/1,0 0,0", "0011001", 0, []int64{1}, "1 0,0/0,0 0,2", 1, 7},
		{"pits=2", "0 1,0/1,0 0,0", "00110011", 0, []int64{1, 4}, "0 0,0/0,0 0,2", 1, 8},
		{"pits=2", "0 1,0/1,0 0,0", "001100110", 1, []int64{1, 4}, "1 0,0/0,0 2,0", 0, 8},
		{"pits=2", "0 1,1/0,1 0,0", "1100100110", 1, []int64{1}, "0 0,0/0,0 3,0", 0, 9},
		{"pits=2", "0 0,1/0,1 0,0", "1100110010", 0, []int64{1, 3}, "0 0,0/0,0 0,2", 1, 8},
		{"pits=4", "0 0,1,0,0/0,1,1,3 0,0", lengthMoves[:119], 0, []int64{1}, "1 0,0,0,0/0,0,0,0 0,6", 1, 119},
		{"pits=4", "0 0,1,0,0/0,1,1,3 0,0", lengthMoves, 0, []int64{1, 5}, "0 0,0,0,0/0,0,0,0 0,6", 1, 120},
		{"pits=3", "0 2,1,0/1,0,1 9,0", repeatMoves, 0, []int64{1, 2, 4, 5}, "0 0,0,0/0,0,0 9,5", 1, 0},
		{"pits=3", "0 2,1,0/1,0,1 0,0", repeatMoves, 1, []int64{1, 4, 5}, "0 0,0,0/0,0,0 5,0", 0, 120},
		{"pits=3", "0 2,1,1/2,0,0 0,0", blockedMoves, 1, []int64{1, 3, 5}, "0 0,0,0/0,0,0 6,0", 0, 120},
		{"pits=4 capture=two-three", "0 1,0,0,1/0,1,2,0 0,2", takenMoves, 1, []int64{1, 2, 3, 5}, "0 0,0,0,0/0,0,0,0 3,4", 0, 120},
	}
}

// game plays the moves of a case.
func (c endCase) game(t *testing.T) playedGame {
	t.Helper()
	r, problems, _ := impl.CheckRules(c.rules + " seeds=1")
	p, ok := impl.ReadPosition(r, c.start)
	if !ok || len(problems) > 0 {
		t.Fatalf("%+v cannot be read", c)
	}
	var moves []int64
	for _, digit := range c.moves {
		moves = append(moves, int64(digit-'0'))
	}
	w, made := beginGame(r, p).afterAll(moves...)
	if made != int64(len(moves)) {
		t.Fatalf("%+v: %d moves can be made", c, made)
	}
	w.game.Resigned = c.resigned
	return w
}

func TestEndsByHand(t *testing.T) {
	for _, c := range endCases() {
		w := c.game(t)
		g := w.game
		want := append(slices.Clone(c.ends), impl.EndNone)[0]
		if got, code := impl.EndOf(g); got != want || code != impl.OK || !slices.Equal(w.endsOf(), c.ends) {
			t.Fatalf("%+v: EndOf = %d, %d; the ends that apply are %v", c, got, code, w.endsOf())
		}
		if want == impl.EndNone {
			checkNoFinal(t, g, impl.ErrState)
		} else {
			final, ok := impl.ReadPosition(g.Rules, c.final)
			if !ok {
				t.Fatalf("%+v cannot be read", c)
			}
			checkFinal(t, g, final, c.winner)
		}
		cut, code := impl.CutGame(g)
		if code != impl.OK || !slices.Equal(cut.Moves, g.Moves[:c.cut]) || !sameNumbers(cut.Now, w.history[c.cut]) {
			t.Fatalf("%+v is cut to %+v, %d", c, cut, code)
		}
		checkEndings(t, w.part(len(g.Moves)))
		checkEnding(t, w)
	}
}

// TestCutGamesOfPlayersWhoResign checks who has resigned in a game that is cut.
func TestCutGamesOfPlayersWhoResign(t *testing.T) {
	for _, c := range endCases() {
		for player := range int64(2) {
			w := c.game(t).part(len(c.moves))
			endedBefore := w.cut().end() != 0
			w.game.Resigned = player
			cut, code := impl.CutGame(w.game)
			want := player
			if endedBefore {
				want = -1
			}
			if cut.Resigned != want || code != impl.OK || !endedBefore && !impl.SameGame(cut, w.game) {
				t.Errorf("%+v: player %d resigns, the game is cut to %+v, %d", c, player, cut, code)
			}
		}
	}
}

// TestEndsOfCircles has games of each length in which the same positions come again and again; with a majority, and blocked at last.
func TestEndsOfCircles(t *testing.T) {
	for _, stores := range [][]int64{{0, 0}, {1, 1}, {3, 0}, {0, 9}} {
		for length := range 121 {
			start := circleStart()
			start.Stores = slices.Clone(stores)
			w, made := beginGame(circleRules, start).afterAll(circleMoves(length)...)
			if made != int64(length) {
				t.Fatalf("%d moves can be made", made)
			}
			want := w.end()
			if length < 8 && stores[0] == stores[1] {
				want = impl.EndNone
			} else if stores[0] == stores[1] {
				want = impl.EndRepeat
			}
			if got, code := impl.EndOf(w.game); got != want || code != impl.OK {
				t.Errorf("EndOf(%+v) = %d, %d, want %d", w.game, got, code, want)
			}
			if length%9 == 0 || length > 115 {
				checkEndings(t, w)
			}
			if blocked, code := w.after(0); length%4 == 3 && code == impl.OK {
				checkEndings(t, blocked)
			}
		}
	}
}

// seenEnds counts what was tried.
type seenEnds struct {
	end                         [6]int
	winner                      [3]int
	several, cutShort, uncut    int
	cutAtFirst, cutAtLast, late int
}

func (s *seenEnds) add(w playedGame) {
	s.end[w.end()]++
	if w.end() != 0 {
		_, winner := w.expectedFinal()
		s.winner[winner+1]++
	}
	s.several += int(bit(len(w.endsOf()) > 1))
	cut, length := w.cut(), len(w.game.Moves)
	made := len(cut.game.Moves)
	s.cutShort += int(bit(made < length))
	s.uncut += int(bit(cut.end() == 0))
	s.cutAtFirst += int(bit(made == 0 && length > 0))
	s.cutAtLast += int(bit(made == length && length > 0 && cut.end() != 0))
	s.late += int(bit(made > 0 && made < length))
}

// endedGames has games that often go on after they have ended.
func endedGames() []playedGame {
	random := rand.New(rand.NewSource(9))
	games := playedGames()
	for i, r := range someMoveRules() {
		for _, p := range append(thinSides(r)[:3], hungryPositions(r)[6:8]...) {
			if r.Stores && i%4 > 0 {
				p.Stores[i%2] += 40
			}
			games = append(games, randomGame(random, r, p, 20+i%101))
		}
	}
	// Few seeds on small boards, of which nothing is captured.
	for i := range 300 {
		r := impl.Rules{Pits: 2, Seeds: 1, Skip: i%3 == 0}
		games = append(games, randomGame(random, r, somePosition(random, r, 2+int64(i)%5), 10+i%30))
	}
	return games
}

// TestEnds compares all functions with what must come of many games.
func TestEnds(t *testing.T) {
	var seen seenEnds
	for _, w := range endedGames() {
		seen.add(w)
		checkEndings(t, w)
	}
	least := min(seen.several, seen.cutShort, seen.uncut, seen.cutAtFirst, seen.cutAtLast, seen.late, seen.winner[0], seen.winner[1], seen.winner[2])
	if least < 50 || min(seen.end[0], seen.end[2], seen.end[3]) < 50 || seen.end[4] < 10 {
		t.Errorf("only these were tried: %+v", seen)
	}
}

// TestEndsOfNewGames is what promise 8 says of new games and of games that are resigned, together with their ends.
func TestEndsOfNewGames(t *testing.T) {
	var open, blocked int
	eachRules(func(r impl.Rules) {
		g, _ := impl.NewGame(r)
		end, code := impl.EndOf(g)
		want := 3 * bit(!impl.CanMove(r, g.Now))
		blocked += int(bit(want == 3))
		open += int(bit(want == 0))
		if end != want || code != impl.OK {
			t.Fatalf("EndOf(%+v) = %d, %d, want %d", g, end, code, want)
		}
		player := r.Seeds % 2
		resigned, _ := impl.ResignGame(g, player)
		total := 2 * r.Pits * r.Seeds
		final := positionOf(0, []int64{player * total, (1 - player) * total}, make([]int64, 2*r.Pits)...)
		if end, code := impl.EndOf(resigned); end != impl.EndResign || code != impl.OK {
			t.Fatalf("EndOf(%+v) = %d, %d", resigned, end, code)
		}
		checkFinal(t, resigned, final, 1-player)
	})
	if open < 1000 {
		t.Errorf("%d new games had not ended, %d had", open, blocked)
	}
}

// TestScoresHaveAllSeeds is promise 9, without what else is known of ends.
func TestScoresHaveAllSeeds(t *testing.T) {
	games := playedGames()
	for _, c := range endCases() {
		games = append(games, c.game(t))
	}
	for i, w := range games {
		g := w.game
		if end, _ := impl.EndOf(g); end == impl.EndNone {
			g, _ = impl.ResignGame(g, int64(i%2))
		}
		scores, one := impl.ScoresOf(g)
		final, two := impl.FinalPosition(g)
		winner, three := impl.WinnerOf(g)
		if one != impl.OK || two != impl.OK || three != impl.OK || !slices.Equal(scores, final.Stores) {
			t.Fatalf("%+v: scores %v, %d, final position %+v, %d, winner %d, %d", g, scores, one, final, two, winner, three)
		}
		if len(scores) != 2 || bigSum(scores).Cmp(bigSum(numbersOf(g.Start))) != 0 || bigSum(final.Pits).Sign() != 0 {
			t.Fatalf("%+v has the scores %v and the final position %+v", g, scores, final)
		}
		for player, score := range scores {
			if score < g.Now.Stores[player] {
				t.Fatalf("%+v has the scores %v", g, scores)
			}
		}
		if g.Resigned == -1 && (winner == 0) != (scores[0] > scores[1]) || g.Resigned == -1 && (winner == 1) != (scores[0] < scores[1]) {
			t.Fatalf("%+v has the winner %d with the scores %v", g, winner, scores)
		}
	}
}

func checkNoEnding(t *testing.T, g impl.Game) {
	t.Helper()
	if got, code := impl.EndOf(g); got != 0 || code != impl.ErrInvalid {
		t.Fatalf("EndOf(%+v) = %d, %d", g, got, code)
	}
	checkNoFinal(t, g, impl.ErrInvalid)
	got, code := impl.CutGame(g)
	checkGot(t, "CutGame", g, got, code, playedGame{}, impl.ErrInvalid)
}

func TestEndsOfInvalidGames(t *testing.T) {
	for _, w := range fewGames() {
		for player := range int64(3) {
			w.game.Resigned = player - 1
			for i, g := range invalidGames(w) {
				if i%3 == int(player) || len(g.Moves) < 2 {
					checkNoEnding(t, g)
				}
			}
		}
	}
	checkNoEnding(t, impl.Game{})
	checkNoEnding(t, impl.Game{Resigned: -1})
	// Moves beyond the limit, though the game has ended long before.
	for _, length := range []int{121, 124, 5000} {
		g := circle(120).game
		g.Moves = circleMoves(length)
		g.Now = clonePosition(circle(length % 4).game.Now)
		checkNoEnding(t, g)
	}
	for _, n := range []int64{math.MinInt64, -2, 2, math.MaxInt64} {
		g := circle(8).game
		g.Resigned = n
		checkNoEnding(t, g)
	}
}

func TestEndsLeaveTheirArguments(t *testing.T) {
	for _, w := range fewGames() {
		given, _ := w.given(1)
		for i, g := range append(invalidGames(w), w.game, given.game, w.cut().game) {
			if i%5 != 0 && !impl.ValidGame(g) {
				continue
			}
			one, same := spaciousGame(g)
			for _, n := range []int64{0, 1, 2, -1} {
				resultsOfEndings(one, one.Now, n)
				resultsOfEndings(w.game, one.Start, n)
			}
			if !same() {
				t.Fatalf("%+v was changed", g)
			}
		}
	}
}

func TestSharesAreNewMemory(t *testing.T) {
	for _, r := range boards() {
		for _, p := range validPositions(r) {
			q, unchanged := spacious(p)
			checkNewPositions(t, p, unchanged, map[string]func() impl.Position{
				"SettlePosition":      func() impl.Position { s, _ := impl.SettlePosition(r, q); return s },
				"GivePosition to 0":   func() impl.Position { s, _ := impl.GivePosition(r, q, 0); return s },
				"GivePosition to 1":   func() impl.Position { s, _ := impl.GivePosition(r, q, 1); return s },
				"GivePosition to two": func() impl.Position { s, _ := impl.GivePosition(r, q, 2); return s },
			})
		}
	}
}

// checkNewPositions checks that each position that is made has memory of its own.
func checkNewPositions(t *testing.T, argument any, unchanged func() bool, makers map[string]func() impl.Position) {
	t.Helper()
	for name, do := range makers {
		first, second := do(), do()
		want := clonePosition(second)
		checkApart(t, name, [][]int64{first.Pits, first.Stores})
		if !unchanged() || !sameNumbers(second, want) || !sameNumbers(do(), want) {
			t.Fatalf("%s of %+v shares memory", name, argument)
		}
	}
}

func TestEndsAreNewMemory(t *testing.T) {
	games := []playedGame{circle(8), circle(11), circle(120)}
	for _, w := range fewGames() {
		given, _ := w.given(0)
		games = append(games, w, given, w.cut())
	}
	for _, w := range games {
		g, unchanged := spaciousGame(w.game)
		checkNewPositions(t, g, unchanged, map[string]func() impl.Position{
			"FinalPosition":  func() impl.Position { p, _ := impl.FinalPosition(g); return p },
			"ScoresOf":       func() impl.Position { s, _ := impl.ScoresOf(g); return impl.Position{Stores: s} },
			"Now of CutGame": func() impl.Position { cut, _ := impl.CutGame(g); return cut.Now },
		})
		first, _ := impl.CutGame(g)
		second, _ := impl.CutGame(g)
		checkApart(t, "CutGame", listsOf(first))
		if want := w.cut().game; !unchanged() || !equalGames(second, want) {
			t.Fatalf("CutGame of %+v shares memory: %+v", g, second)
		}
	}
}
