package tests

import (
	"math"
	"math/rand"
	"slices"
	"testing"

	"loop.example/g00926/impl"
)

// playedGame is a game with what must follow from its moves, made without the functions that are tested.
type playedGame struct {
	game    impl.Game
	history []impl.Position
	movers  []int64
	gains   []int64
}

func beginGame(r impl.Rules, start impl.Position) playedGame {
	game := impl.Game{Rules: r, Start: clonePosition(start), Now: clonePosition(start), Resigned: -1}
	return playedGame{game: game, history: []impl.Position{start}}
}

// after has one move more, or the fault of this move.
func (w playedGame) after(move int64) (playedGame, int64) {
	if w.game.Resigned != -1 {
		return playedGame{}, impl.ErrState
	}
	if len(w.game.Moves) == 120 {
		return playedGame{}, impl.ErrFull
	}
	if move < 0 || move >= w.game.Rules.Pits {
		return playedGame{}, impl.ErrRange
	}
	result, fault := expectTurn(w.game.Rules, w.game.Now, move)
	if fault != impl.OK {
		return playedGame{}, fault
	}
	w.movers = append(slices.Clone(w.movers), w.game.Now.Player)
	w.gains = append(slices.Clone(w.gains), result.Gain)
	w.history = append(slices.Clone(w.history), result.Next)
	w.game.Moves = append(slices.Clone(w.game.Moves), move)
	w.game.Now = clonePosition(result.Next)
	return w, impl.OK
}

// afterAll has the moves up to the first one that cannot be made, and their number.
func (w playedGame) afterAll(moves ...int64) (playedGame, int64) {
	for made, move := range moves {
		next, code := w.after(move)
		if code != impl.OK {
			return w, int64(made)
		}
		w = next
	}
	return w, int64(len(moves))
}

func (w playedGame) before() (playedGame, int64) {
	last := len(w.game.Moves) - 1
	if last < 0 || w.game.Resigned != -1 {
		return playedGame{}, impl.ErrState
	}
	w.movers, w.gains, w.history = w.movers[:last], w.gains[:last], w.history[:last+1]
	w.game.Moves, w.game.Now = w.game.Moves[:last], clonePosition(w.history[last])
	return w, impl.OK
}

func (w playedGame) given(player int64) (playedGame, int64) {
	if player != 0 && player != 1 {
		return playedGame{}, impl.ErrRange
	}
	if w.game.Resigned != -1 {
		return playedGame{}, impl.ErrState
	}
	w.game.Resigned = player
	return w, impl.OK
}

func (w playedGame) repeats() int64 {
	n := int64(0)
	for _, p := range w.history {
		n += bit(sameNumbers(p, w.game.Now))
	}
	return n
}

func cloneGame(g impl.Game) impl.Game {
	g.Start, g.Moves, g.Now = clonePosition(g.Start), slices.Clone(g.Moves), clonePosition(g.Now)
	return g
}

// equalGames compares games without the functions that are tested.
func equalGames(a, b impl.Game) bool {
	return a.Rules == b.Rules && sameNumbers(a.Start, b.Start) && slices.Equal(a.Moves, b.Moves) &&
		sameNumbers(a.Now, b.Now) && a.Resigned == b.Resigned
}

func isZeroGame(g impl.Game) bool {
	return equalGames(g, impl.Game{})
}

// isGame says what the chapter says of a valid game.
func isGame(g impl.Game) bool {
	if !mustBeValid(g.Rules, g.Start) || len(g.Moves) > 120 || g.Resigned < -1 || g.Resigned > 1 {
		return false
	}
	w, made := beginGame(g.Rules, g.Start).afterAll(g.Moves...)
	return made == int64(len(g.Moves)) && sameNumbers(w.game.Now, g.Now)
}

func equalHistories(a, b []impl.Position) bool {
	return slices.EqualFunc(a, b, sameNumbers)
}

// randomGame makes moves as long as there are some.
func randomGame(random *rand.Rand, r impl.Rules, start impl.Position, length int) playedGame {
	w := beginGame(r, start)
	for range length {
		_, results := expectTurns(r, w.game.Now)
		if len(results) == 0 {
			break
		}
		w, _ = w.after(results[random.Intn(len(results))].Move)
	}
	return w
}

// playedGames has games of all kinds of rules, that begin with the first position and with others.
func playedGames() []playedGame {
	random := rand.New(rand.NewSource(8))
	var all []playedGame
	for i, r := range someMoveRules() {
		r.Seeds = 1 + int64(i)%6
		if i%9 == 0 {
			r.Seeds = min(r.Seeds, 3)
		}
		first := positionOf(0, []int64{0, 0}, slices.Repeat([]int64{r.Seeds}, int(2*r.Pits))...)
		all = append(all, beginGame(r, first), randomGame(random, r, first, 1+i%7), randomGame(random, r, first, 25))
		for j, p := range append(movePositions(r), validPositions(r)...) {
			if (i+j)%17 == 0 {
				all = append(all, randomGame(random, r, p, (i+j)%12))
			}
		}
	}
	return all
}

// fewGames has a part of these games, for tests that take long.
func fewGames() []playedGame {
	var few []playedGame
	for i, w := range playedGames() {
		if i%11 == 0 {
			few = append(few, w)
		}
	}
	return append(few, circle(0), circle(1), circle(7), circle(20))
}

// circleRules and circleStart are those of a game that comes to the first position after each four moves.
var circleRules = impl.Rules{Pits: 2, Seeds: 1}

func circleStart() impl.Position {
	return positionOf(0, []int64{0, 0}, 1, 0, 1, 0)
}

// circleMoves repeat 0 0 1 1: each seed goes through all pits.
func circleMoves(length int) []int64 {
	var moves []int64
	for i := range length {
		moves = append(moves, int64(i/2%2))
	}
	return moves
}

func circle(length int) playedGame {
	w, made := beginGame(circleRules, circleStart()).afterAll(circleMoves(length)...)
	if made != int64(length) {
		panic("a move of the circle is not legal")
	}
	return w
}

// checkGot checks a game that a function returns, or its error.
func checkGot(t *testing.T, what string, g, got impl.Game, code int64, want playedGame, wantCode int64) {
	t.Helper()
	if code != wantCode || wantCode == impl.OK && !equalGames(got, want.game) || wantCode != impl.OK && !isZeroGame(got) {
		t.Fatalf("%s of %+v: %+v, %d, want %+v, %d", what, g, got, code, want.game, wantCode)
	}
}

// checkLists checks all that is told of a game.
func checkLists(t *testing.T, w playedGame) {
	t.Helper()
	g := w.game
	if !impl.ValidGame(g) {
		t.Fatalf("%+v is not valid", g)
	}
	if got, code := impl.HistoryOf(g); !equalHistories(got, w.history) || code != impl.OK {
		t.Fatalf("HistoryOf(%+v) = %+v, %d, want %+v", g, got, code, w.history)
	}
	if got, code := impl.MoversOf(g); !slices.Equal(got, w.movers) || code != impl.OK {
		t.Fatalf("MoversOf(%+v) = %v, %d, want %v", g, got, code, w.movers)
	}
	if got, code := impl.GainsOf(g); !slices.Equal(got, w.gains) || code != impl.OK {
		t.Fatalf("GainsOf(%+v) = %v, %d, want %v", g, got, code, w.gains)
	}
	if got, code := impl.RepeatsOf(g); got != w.repeats() || code != impl.OK {
		t.Fatalf("RepeatsOf(%+v) = %d, %d, want %d", g, got, code, w.repeats())
	}
	if !impl.SameGame(g, cloneGame(g)) {
		t.Fatalf("%+v is not the same as itself", g)
	}
}

// checkChanges checks all games that follow from a game.
func checkChanges(t *testing.T, w playedGame) {
	t.Helper()
	g := w.game
	for _, move := range append([]int64{g.Rules.Pits, math.MinInt64, -1, math.MaxInt64}, allMovesOf(g.Rules)...) {
		want, wantCode := w.after(move)
		got, code := impl.PlayMove(g, move)
		checkGot(t, "PlayMove", g, got, code, want, wantCode)
		if wantCode != impl.OK {
			continue
		}
		if back, code := impl.UndoMove(got); !equalGames(back, g) || !impl.SameGame(back, g) || code != impl.OK {
			t.Fatalf("UndoMove after move %d of %+v is %+v, %d", move, g, back, code)
		}
	}
	want, wantCode := w.before()
	got, code := impl.UndoMove(g)
	checkGot(t, "UndoMove", g, got, code, want, wantCode)
	for _, player := range append([]int64{0, 1, 2}, extremes...) {
		want, wantCode := w.given(player)
		got, code := impl.ResignGame(g, player)
		checkGot(t, "ResignGame", g, got, code, want, wantCode)
	}
}

func allMovesOf(r impl.Rules) []int64 {
	var moves []int64
	for move := range r.Pits {
		moves = append(moves, move)
	}
	return moves
}

// checkGame checks a game, and the games in which a player has resigned in it.
func checkGame(t *testing.T, w playedGame) {
	t.Helper()
	checkLists(t, w)
	checkChanges(t, w)
	for player := range int64(2) {
		given, _ := w.given(player)
		checkLists(t, given)
		checkChanges(t, given)
	}
}

// checkNoGame checks that a game is not valid.
func checkNoGame(t *testing.T, g impl.Game) {
	t.Helper()
	if impl.ValidGame(g) {
		t.Fatalf("%+v is valid", g)
	}
	none := playedGame{}
	for _, n := range append([]int64{0, 1, 2, g.Rules.Pits}, extremes...) {
		got, code := impl.PlayMove(g, n)
		checkGot(t, "PlayMove", g, got, code, none, impl.ErrInvalid)
		got, code = impl.ResignGame(g, n)
		checkGot(t, "ResignGame", g, got, code, none, impl.ErrInvalid)
	}
	for _, moves := range [][]int64{nil, {}, {0}, {1, 0}, {-1}, {math.MaxInt64, 0}} {
		got, made, code := impl.PlayMoves(g, moves)
		checkGot(t, "PlayMoves", g, got, code, none, impl.ErrInvalid)
		if made != 0 {
			t.Fatalf("PlayMoves makes %d moves of %+v", made, g)
		}
	}
	got, code := impl.UndoMove(g)
	checkGot(t, "UndoMove", g, got, code, none, impl.ErrInvalid)
	checkNoLists(t, g)
}

func checkNoLists(t *testing.T, g impl.Game) {
	t.Helper()
	if got, code := impl.HistoryOf(g); len(got) != 0 || code != impl.ErrInvalid {
		t.Fatalf("HistoryOf(%+v) = %+v, %d", g, got, code)
	}
	if got, code := impl.MoversOf(g); len(got) != 0 || code != impl.ErrInvalid {
		t.Fatalf("MoversOf(%+v) = %v, %d", g, got, code)
	}
	if got, code := impl.GainsOf(g); len(got) != 0 || code != impl.ErrInvalid {
		t.Fatalf("GainsOf(%+v) = %v, %d", g, got, code)
	}
	if got, code := impl.RepeatsOf(g); got != 0 || code != impl.ErrInvalid {
		t.Fatalf("RepeatsOf(%+v) = %d, %d", g, got, code)
	}
}

func TestGamesExample(t *testing.T) {
	g, _ := impl.NewGame(standardTable()["mini"])
	g, code := impl.PlayMove(g, 0)
	history, other := impl.HistoryOf(g)
	want := []impl.Position{
		positionOf(0, []int64{0, 0}, 2, 2, 2, 2, 2, 2),
		positionOf(1, []int64{0, 0}, 0, 3, 3, 2, 2, 2),
	}
	if !equalHistories(history, want) || code != impl.OK || other != impl.OK {
		t.Errorf("the history is %+v, %d, %d", history, code, other)
	}
}

// gameCase has the texts of all positions of a game, the first one as its start.
type gameCase struct {
	rules   string
	moves   []int64
	history []string
	movers  []int64
	gains   []int64
	repeats int64
}

func gameCases() []gameCase {
	return []gameCase{
		{"pits=3 capture=two-three feed", []int64{2, 2},
			[]string{"0 2,2,2/2,2,2 0,0", "1 2,2,0/0,0,2 6,0", "0 0,0,0/0,0,0 6,6"}, []int64{0, 1}, []int64{6, 6}, 1},
		{"pits=6 stores again capture=cross", []int64{2, 5, 1, 0},
			[]string{
				"0 4,4,4,4,4,4/4,4,4,4,4,4 0,0", "0 4,4,0,5,5,5/4,4,4,4,4,4 1,0", "1 4,4,0,5,5,0/5,5,5,5,4,4 2,0",
				"1 4,4,0,5,5,0/5,0,6,6,5,5 2,1", "0 4,4,0,5,5,0/0,1,7,7,6,6 2,1",
			}, []int64{0, 0, 1, 1}, []int64{1, 1, 1, 0}, 1},
		// Player 1 moves first, and twice.
		{"pits=2 stores again", []int64{1, 0, 1},
			[]string{"1 0,1/1,1 3,4", "1 0,1/1,0 3,5", "0 0,1/0,1 3,5", "0 0,0/0,1 4,5"}, []int64{1, 1, 0}, []int64{1, 0, 1}, 1},
		{"pits=2 stores", []int64{1, 1, 0},
			[]string{"1 0,1/1,1 3,4", "0 0,1/1,0 3,5", "1 0,0/1,0 4,5", "0 0,0/0,1 4,5"}, []int64{1, 0, 1}, []int64{1, 1, 0}, 1},
		// No moves; nobody can move.
		{"pits=2", nil, []string{"1 0,0/0,0 0,0"}, nil, nil, 1},
		{"pits=2", nil, []string{"1 2,0/0,5 0,89"}, nil, nil, 1},
		// The first position comes again.
		{"pits=2", []int64{0, 0, 1},
			[]string{"0 1,0/1,0 0,0", "1 0,1/1,0 0,0", "0 0,1/0,1 0,0", "1 0,0/1,1 0,0"}, []int64{0, 1, 0}, []int64{0, 0, 0}, 1},
		{"pits=2", []int64{0, 0, 1, 1},
			[]string{"0 1,0/1,0 0,0", "1 0,1/1,0 0,0", "0 0,1/0,1 0,0", "1 0,0/1,1 0,0", "0 1,0/1,0 0,0"},
			[]int64{0, 1, 0, 1}, []int64{0, 0, 0, 0}, 2},
		// It comes again, but is not the last one.
		{"pits=2", []int64{0, 0, 1, 0},
			[]string{"0 1,0/1,0 0,0", "1 0,1/1,0 0,0", "0 0,1/0,1 0,0", "1 0,0/1,1 0,0", "0 0,0/0,2 0,0"},
			[]int64{0, 1, 0, 1}, []int64{0, 0, 0, 0}, 1},
	}
}

func TestGamesByHand(t *testing.T) {
	for _, c := range gameCases() {
		r, problems, _ := impl.CheckRules(c.rules + " seeds=1")
		w := playedGame{movers: c.movers, gains: c.gains}
		for _, text := range c.history {
			p, ok := impl.ReadPosition(r, text)
			if !ok || len(problems) > 0 {
				t.Fatalf("%+v cannot be read: %q", c, text)
			}
			w.history = append(w.history, p)
		}
		last := len(c.history) - 1
		w.game = impl.Game{Rules: r, Start: w.history[0], Moves: c.moves, Now: clonePosition(w.history[last]), Resigned: -1}
		begun, _ := impl.GameFrom(r, w.history[0])
		got, made, code := impl.PlayMoves(begun, c.moves)
		checkGot(t, "PlayMoves", begun, got, code, w, impl.OK)
		if made != int64(last) || w.repeats() != c.repeats {
			t.Errorf("%+v: %d moves are made, and %d repeats expected", c, made, w.repeats())
		}
		checkGame(t, w)
	}
}

// TestRepeats goes around a circle: each position comes again after four moves.
func TestRepeats(t *testing.T) {
	g, _ := impl.GameFrom(circleRules, circleStart())
	for i, move := range circleMoves(120) {
		g, _ = impl.PlayMove(g, move)
		want := int64((i+1)/4 + 1)
		if got, code := impl.RepeatsOf(g); got != want || code != impl.OK || len(g.Moves) != i+1 {
			t.Fatalf("RepeatsOf after %d moves = %d, %d, want %d", i+1, got, code, want)
		}
	}
	for _, length := range []int{3, 4, 5, 8, 9, 11, 12, 13} {
		checkGame(t, circle(length))
	}
}

func TestNewGame(t *testing.T) {
	eachRules(func(r impl.Rules) {
		want := positionOf(0, []int64{0, 0}, slices.Repeat([]int64{r.Seeds}, int(2*r.Pits))...)
		g, code := impl.NewGame(r)
		checkGot(t, "NewGame", impl.Game{Rules: r}, g, code, beginGame(r, want), impl.OK)
		if !impl.ValidGame(g) {
			t.Fatalf("NewGame(%+v) is not valid", r)
		}
	})
	for _, r := range invalidRules() {
		g, code := impl.NewGame(r)
		checkGot(t, "NewGame", impl.Game{Rules: r}, g, code, playedGame{}, impl.ErrInvalid)
	}
}

func TestGameFrom(t *testing.T) {
	for _, r := range append(boards(), someMoveRules()...) {
		for _, p := range append(validPositions(r), hungryPositions(r)...) {
			g, code := impl.GameFrom(r, p)
			checkGot(t, "GameFrom", impl.Game{Rules: r, Start: p}, g, code, beginGame(r, p), impl.OK)
			checkLists(t, beginGame(r, p))
		}
	}
	invalidPairs(func(r impl.Rules, p impl.Position) {
		g, code := impl.GameFrom(r, p)
		checkGot(t, "GameFrom", impl.Game{Rules: r, Start: p}, g, code, playedGame{}, impl.ErrInvalid)
	})
}

// seenGames counts what was tried.
type seenGames struct {
	from0, from1, first, other, again, gain, moves, final, twice, thrice int
}

func (s *seenGames) add(w playedGame) {
	s.from0 += int(1 - w.game.Start.Player)
	s.from1 += int(w.game.Start.Player)
	first, _ := impl.StartPosition(w.game.Rules)
	s.first += int(bit(sameNumbers(first, w.game.Start)))
	s.other += int(bit(!sameNumbers(first, w.game.Start)))
	for i, gain := range w.gains {
		s.again += int(bit(w.history[i+1].Player == w.movers[i]))
		s.gain += int(bit(gain > 0))
	}
	s.moves += len(w.game.Moves)
	_, results := expectTurns(w.game.Rules, w.game.Now)
	s.final += int(bit(len(results) == 0))
	s.twice += int(bit(w.repeats() == 2))
	s.thrice += int(bit(w.repeats() > 2))
}

// TestGames compares all functions with what must come of the moves of many games.
func TestGames(t *testing.T) {
	var seen seenGames
	for _, w := range playedGames() {
		seen.add(w)
		checkGame(t, w)
	}
	if min(seen.from0, seen.from1, seen.first, seen.other, seen.again, seen.gain, seen.moves/50, seen.final) < 40 {
		t.Errorf("only these were tried: %+v", seen)
	}
}

// TestLongGames has many positions that come again.
func TestLongGames(t *testing.T) {
	random := rand.New(rand.NewSource(88))
	var seen seenGames
	for i, r := range someMoveRules() {
		if r.Stores || r.Pits > 4 {
			continue
		}
		r.Capture = int64(i % 2)
		for _, p := range thinSides(r)[:6] {
			w := randomGame(random, r, p, 10+i%40)
			seen.add(w)
			checkLists(t, w)
			checkChanges(t, w)
		}
	}
	if min(seen.twice, seen.thrice, seen.from0, seen.from1) < 5 {
		t.Errorf("only these were tried: %+v", seen)
	}
}

func TestGamesAtTheLimit(t *testing.T) {
	for _, length := range []int{118, 119, 120} {
		checkGame(t, circle(length))
	}
	full := circle(120).game
	for _, move := range append([]int64{0, 1, 2}, extremes...) {
		got, code := impl.PlayMove(full, move)
		checkGot(t, "PlayMove", full, got, code, playedGame{}, impl.ErrFull)
	}
	for player := range int64(2) {
		full.Resigned = player
		got, code := impl.PlayMove(full, 0)
		checkGot(t, "PlayMove", full, got, code, playedGame{}, impl.ErrState)
	}
	for _, moves := range [][]int64{{0}, {0, 1}, {0, 0, 0, 0, 0}, {-1}, nil, {}} {
		got, made, code := impl.PlayMoves(circle(120).game, moves)
		checkGot(t, "PlayMoves", full, got, code, circle(120), impl.OK)
		if made != 0 {
			t.Errorf("PlayMoves makes %d moves in a game that is full", made)
		}
	}
	for begun := range 120 {
		got, made, code := impl.PlayMoves(circle(begun).game, circleMoves(500)[begun%4:])
		checkGot(t, "PlayMoves", circle(begun).game, got, code, circle(120), impl.OK)
		if made != int64(120-begun) {
			t.Errorf("PlayMoves makes %d moves in a game with %d", made, begun)
		}
	}
}

// TestGamesBeyondTheLimit has moves all of which are legal, but they are too many.
func TestGamesBeyondTheLimit(t *testing.T) {
	for _, length := range []int{121, 122, 124, 128, 240, 5000} {
		g := circle(120).game
		g.Moves = circleMoves(length)
		for _, now := range circle(8).history {
			g.Now = clonePosition(now)
			checkNoGame(t, g)
		}
		g.Resigned = 1
		checkNoGame(t, g)
	}
}

// TestOrderOfErrors has several conditions at once.
func TestOrderOfErrors(t *testing.T) {
	none := playedGame{}
	for _, length := range []int{0, 1, 6, 120} {
		for player := range int64(2) {
			w, _ := circle(length).given(player)
			for _, n := range []int64{math.MinInt64, -1, 2, math.MaxInt64} {
				got, code := impl.PlayMove(w.game, n)
				checkGot(t, "PlayMove", w.game, got, code, none, impl.ErrState)
				got, code = impl.ResignGame(w.game, n)
				checkGot(t, "ResignGame", w.game, got, code, none, impl.ErrRange)
			}
			got, code := impl.ResignGame(w.game, 1-player)
			checkGot(t, "ResignGame", w.game, got, code, none, impl.ErrState)
			got, code = impl.ResignGame(w.game, player)
			checkGot(t, "ResignGame", w.game, got, code, none, impl.ErrState)
			got, code = impl.UndoMove(w.game)
			checkGot(t, "UndoMove", w.game, got, code, none, impl.ErrState)
			w.game.Now.Stores[0]++
			checkNoGame(t, w.game)
		}
	}
}

// TestFaultsOfMovesInGames has a move with each fault, and games in which it has been made.
func TestFaultsOfMovesInGames(t *testing.T) {
	cases := []struct {
		rules, text string
		move, fault int64
	}{
		{"pits=2", "0 1,0/0,1 0,0", 2, impl.ErrRange},
		{"pits=2", "1 1,0/0,1 0,0", -1, impl.ErrRange},
		{"pits=2", "1 1,0/0,1 0,0", math.MinInt64, impl.ErrRange},
		{"pits=2", "0 1,0/0,1 0,0", math.MaxInt64, impl.ErrRange},
		{"pits=2", "0 1,0/0,1 0,0", 1, impl.ErrState},
		{"pits=2", "1 1,0/0,1 0,0", 0, impl.ErrState},
		{"pits=2 relay", "0 1,7/11,12 0,0", 1, impl.ErrEndless},
		{"pits=2 feed", "0 1,0/0,0 0,0", 0, impl.ErrIllegal},
		{"pits=2 capture=even slam=forbid", "0 0,1/3,0 0,0", 1, impl.ErrIllegal},
	}
	for _, c := range cases {
		r, _, _ := impl.CheckRules(c.rules + " seeds=1")
		p, ok := impl.ReadPosition(r, c.text)
		if !ok {
			t.Fatalf("%+v cannot be read", c)
		}
		g := beginGame(r, p).game
		got, code := impl.PlayMove(g, c.move)
		checkGot(t, "PlayMove", g, got, code, playedGame{}, c.fault)
		got, made, code := impl.PlayMoves(g, []int64{c.move, 0, 1})
		checkGot(t, "PlayMoves", g, got, code, beginGame(r, p), impl.OK)
		if made != 0 {
			t.Errorf("%+v: PlayMoves makes %d moves", c, made)
		}
		g.Moves = []int64{c.move}
		for _, now := range []impl.Position{p, positionOf(1-p.Player, p.Stores, p.Pits...)} {
			g.Now = clonePosition(now)
			checkNoGame(t, g)
		}
	}
}

// invalidGames has games that are not valid, each for one reason.
func invalidGames(w playedGame) []impl.Game {
	var bad []impl.Game
	add := func(change func(g *impl.Game)) {
		g := cloneGame(w.game)
		change(&g)
		bad = append(bad, g)
	}
	for _, n := range append([]int64{-2, -3, 2, 3, 255, 256}, extremes...) {
		if n != -1 {
			add(func(g *impl.Game) { g.Resigned = n })
		}
	}
	for _, p := range invalidPositions(w.game.Rules) {
		add(func(g *impl.Game) { g.Start = p })
		add(func(g *impl.Game) { g.Start, g.Now = p, clonePosition(p) })
		add(func(g *impl.Game) { g.Now = p })
	}
	for _, now := range spoiled(w.game.Now) {
		add(func(g *impl.Game) { g.Now = now })
	}
	for _, now := range w.history {
		if !sameNumbers(now, w.game.Now) {
			add(func(g *impl.Game) { g.Now = clonePosition(now) })
		}
	}
	for i, r := range invalidRules() {
		if i%3 == len(w.game.Moves)%3 {
			add(func(g *impl.Game) { g.Rules = r })
		}
	}
	return append(bad, gamesWithBadMoves(w)...)
}

// gamesWithBadMoves have a move that is not legal at the beginning, in the middle or at the end.
func gamesWithBadMoves(w playedGame) []impl.Game {
	var bad []impl.Game
	moves := w.game.Moves
	for _, at := range []int{0, len(moves) / 2, len(moves)} {
		part, _ := beginGame(w.game.Rules, w.game.Start).afterAll(moves[:at]...)
		for _, move := range append(append(allMovesOf(w.game.Rules), w.game.Rules.Pits), extremes...) {
			if _, fault := part.after(move); fault == impl.OK || len(moves) == 120 {
				continue
			}
			added, changed := cloneGame(w.game), cloneGame(w.game)
			added.Moves = slices.Insert(added.Moves, at, move)
			bad = append(bad, added)
			if at < len(moves) {
				changed.Moves[at] = move
				bad = append(bad, changed)
			}
		}
	}
	return bad
}

func TestInvalidGames(t *testing.T) {
	for _, w := range fewGames() {
		given, _ := w.given(1)
		for i, g := range append(invalidGames(w), invalidGames(given)...) {
			if isGame(g) {
				t.Fatalf("%+v is expected not to be valid", g)
			}
			if i%5 == 0 || len(g.Moves) < 2 {
				checkNoGame(t, g)
			} else if impl.ValidGame(g) {
				t.Fatalf("%+v is valid", g)
			}
		}
	}
	for _, g := range invalidGames(circle(120)) {
		if impl.ValidGame(g) {
			t.Fatalf("%+v is valid", g)
		}
	}
	checkNoGame(t, impl.Game{})
	checkNoGame(t, impl.Game{Resigned: -1})
	for _, r := range invalidRules() {
		checkNoGame(t, impl.Game{Rules: r, Resigned: -1})
		checkNoGame(t, impl.Game{Rules: r, Start: circleStart(), Now: circleStart(), Resigned: -1})
	}
}

// TestChangedGames changes anything, also so that a game remains valid.
func TestChangedGames(t *testing.T) {
	random := rand.New(rand.NewSource(888))
	var valid, invalid int
	for _, w := range playedGames() {
		for range 30 {
			g := changedGame(random, w)
			want := isGame(g)
			valid += int(bit(want))
			invalid += int(bit(!want))
			if got := impl.ValidGame(g); got != want {
				t.Fatalf("ValidGame(%+v) = %v", g, got)
			}
		}
	}
	if min(valid, invalid) < 500 {
		t.Errorf("only %d games were valid, and %d not", valid, invalid)
	}
}

func changedGame(random *rand.Rand, w playedGame) impl.Game {
	g := cloneGame(w.game)
	last := len(g.Moves)
	switch random.Intn(8) {
	case 0:
		g.Rules.Feed = !g.Rules.Feed
	case 1:
		g.Rules.Seeds = random.Int63n(8)
	case 2:
		g.Rules.Slam = random.Int63n(4)
	case 3:
		g.Resigned = random.Int63n(4) - 2
	case 4:
		g.Moves = g.Moves[:random.Intn(last+1)]
		g.Now = clonePosition(w.history[len(g.Moves)])
	case 5:
		begin := random.Intn(last + 1)
		g.Moves, g.Start = g.Moves[begin:], clonePosition(w.history[begin])
	case 6:
		store := random.Intn(2)
		g.Start.Stores[store]++
		g.Now.Stores[store]++
	default:
		if last > 0 {
			g.Moves[random.Intn(last)] = random.Int63n(g.Rules.Pits)
		}
	}
	return g
}

func TestPlayMoves(t *testing.T) {
	for _, w := range playedGames() {
		moves := w.game.Moves
		for part := range len(moves) + 1 {
			begun, _ := beginGame(w.game.Rules, w.game.Start).afterAll(moves[:part]...)
			for _, end := range []int{part, (part + len(moves) + 1) / 2, len(moves)} {
				checkPlayMoves(t, begun, moves[part:end])
				checkPlayMoves(t, begun, append(slices.Clone(moves[part:end]), -1, 0, 1))
			}
		}
	}
}

// checkPlayMoves also plays the moves one by one.
func checkPlayMoves(t *testing.T, w playedGame, moves []int64) {
	t.Helper()
	want, wantMade := w.afterAll(moves...)
	got, made, code := impl.PlayMoves(w.game, moves)
	checkGot(t, "PlayMoves", w.game, got, code, want, impl.OK)
	if made != wantMade {
		t.Fatalf("PlayMoves(%+v, %v) makes %d moves, want %d", w.game, moves, made, wantMade)
	}
	single := w.game
	for i, move := range moves {
		next, code := impl.PlayMove(single, move)
		if (code == impl.OK) != (int64(i) < made) {
			t.Fatalf("PlayMoves(%+v, %v) makes %d moves, move %d has the code %d", w.game, moves, made, i, code)
		}
		if code != impl.OK {
			break
		}
		single = next
	}
	if !equalGames(single, got) {
		t.Fatalf("PlayMoves(%+v, %v) = %+v, one by one %+v", w.game, moves, got, single)
	}
}

func TestPlayMovesThatCannotBePlayed(t *testing.T) {
	cases := []struct {
		moves []int64
		made  int64
	}{
		{nil, 0}, {[]int64{}, 0},
		{[]int64{0}, 1}, {[]int64{0, 0}, 2}, {[]int64{0, 0, 1, 1}, 4},
		{[]int64{1}, 0}, {[]int64{2, 0}, 0}, {[]int64{-1}, 0}, {[]int64{math.MinInt64, 0, 0}, 0}, {[]int64{math.MaxInt64}, 0},
		{[]int64{1, 0, 0}, 0}, {[]int64{0, 1, 0}, 1}, {[]int64{0, 0, 0, 1}, 2}, {[]int64{0, 0, 1, 2, 1}, 3},
		{[]int64{0, 0, 1, 1, math.MaxInt64}, 4},
	}
	for _, c := range cases {
		want, made := beginGame(circleRules, circleStart()).afterAll(c.moves...)
		if made != c.made {
			t.Fatalf("%v: %d moves are expected", c.moves, made)
		}
		got, made, code := impl.PlayMoves(circle(0).game, c.moves)
		checkGot(t, "PlayMoves", circle(0).game, got, code, want, impl.OK)
		if made != c.made {
			t.Errorf("PlayMoves makes %d of %v", made, c.moves)
		}
		for player := range int64(2) {
			given, _ := circle(5).given(player)
			got, made, code := impl.PlayMoves(given.game, c.moves)
			checkGot(t, "PlayMoves", given.game, got, code, given, impl.OK)
			if made != 0 {
				t.Errorf("PlayMoves makes %d of %v after a player has resigned", made, c.moves)
			}
		}
	}
}

func TestUndoMove(t *testing.T) {
	// The only move; and a move after which the same player moves again.
	kalah := standardTable()["kalah"]
	start := positionOf(0, []int64{0, 0}, slices.Repeat([]int64{4}, 12)...)
	for _, moves := range [][]int64{{0}, {2}, {2, 5}, {2, 5, 1}, {2, 5, 1, 0}} {
		w, made := beginGame(kalah, start).afterAll(moves...)
		if made != int64(len(moves)) {
			t.Fatalf("%v cannot be played", moves)
		}
		g := w.game
		for range moves {
			var code int64
			w, _ = w.before()
			g, code = impl.UndoMove(g)
			checkGot(t, "UndoMove", g, g, code, w, impl.OK)
		}
		got, code := impl.UndoMove(g)
		checkGot(t, "UndoMove", g, got, code, playedGame{}, impl.ErrState)
	}
}

// TestGamesCanBeUndone is promise 8, without what else is known of games.
func TestGamesCanBeUndone(t *testing.T) {
	for _, w := range playedGames() {
		g, _ := impl.GameFrom(w.game.Rules, w.game.Start)
		games := []impl.Game{g}
		for _, move := range w.game.Moves {
			g, _ = impl.PlayMove(g, move)
			games = append(games, g)
		}
		history, _ := impl.HistoryOf(g)
		for i := len(games) - 1; i >= 0; i-- {
			if !impl.SameGame(g, games[i]) || !impl.SamePosition(games[i].Now, history[i]) {
				t.Fatalf("%d moves before the end of %+v is %+v", len(games)-1-i, w.game, g)
			}
			g, _ = impl.UndoMove(g)
		}
		checkHistory(t, games[len(games)-1], history)
	}
}

// checkHistory checks that each position leads to the next one, and that seeds go into stores only.
func checkHistory(t *testing.T, g impl.Game, history []impl.Position) {
	t.Helper()
	movers, one := impl.MoversOf(g)
	gains, two := impl.GainsOf(g)
	if len(history) != len(g.Moves)+1 || len(movers) != len(g.Moves) || len(gains) != len(g.Moves) || one != impl.OK || two != impl.OK {
		t.Fatalf("%+v: history %+v, movers %v, gains %v", g, history, movers, gains)
	}
	if !impl.SamePosition(history[0], g.Start) || !impl.SamePosition(history[len(g.Moves)], g.Now) {
		t.Fatalf("%+v: history %+v", g, history)
	}
	stores := slices.Clone(g.Start.Stores)
	for i, move := range g.Moves {
		next, gain, code := impl.MakeMove(g.Rules, history[i], move)
		if !impl.SamePosition(next, history[i+1]) || gain != gains[i] || code != impl.OK || history[i].Player != movers[i] {
			t.Fatalf("%+v: move %d leads to %+v with gain %d, %d; history %+v, gains %v", g, i, next, gain, code, history, gains)
		}
		stores[movers[i]] += gains[i]
	}
	if !slices.Equal(stores, g.Now.Stores) {
		t.Fatalf("%+v: the gains %v lead to the stores %v", g, gains, stores)
	}
}

// spoiledGames has games that differ from g in one place.
func spoiledGames(g impl.Game) []impl.Game {
	var all []impl.Game
	add := func(change func(g *impl.Game)) {
		other := cloneGame(g)
		change(&other)
		all = append(all, other)
	}
	add(func(g *impl.Game) { g.Rules.Stores = !g.Rules.Stores })
	add(func(g *impl.Game) { g.Rules.Skip = !g.Rules.Skip })
	add(func(g *impl.Game) { g.Rules.Relay = !g.Rules.Relay })
	add(func(g *impl.Game) { g.Rules.Feed = !g.Rules.Feed })
	add(func(g *impl.Game) { g.Rules.Again = !g.Rules.Again })
	for _, n := range []int64{1, -1, 256, 1 << 32, math.MinInt64} {
		add(func(g *impl.Game) { g.Rules.Pits += n })
		add(func(g *impl.Game) { g.Rules.Seeds += n })
		add(func(g *impl.Game) { g.Rules.Capture += n })
		add(func(g *impl.Game) { g.Rules.Slam += n })
		add(func(g *impl.Game) { g.Resigned += n })
		for i := range g.Moves {
			add(func(g *impl.Game) { g.Moves[i] += n })
		}
	}
	for _, p := range spoiled(g.Start) {
		add(func(g *impl.Game) { g.Start = p })
	}
	for _, p := range spoiled(g.Now) {
		add(func(g *impl.Game) { g.Now = p })
	}
	for _, n := range []int64{0, 1} {
		add(func(g *impl.Game) { g.Moves = append(g.Moves, n) })
		add(func(g *impl.Game) { g.Moves = append([]int64{n}, g.Moves...) })
	}
	if last := len(g.Moves) - 1; last >= 0 {
		add(func(g *impl.Game) { g.Moves = g.Moves[:last] })
		add(func(g *impl.Game) { g.Moves = nil })
	}
	return all
}

func TestSameGame(t *testing.T) {
	games := []impl.Game{
		{}, {Moves: []int64{5, 5, math.MinInt64}, Resigned: math.MaxInt64},
		{Rules: invalidRules()[3], Start: positionOf(7, []int64{1}, 2), Now: positionOf(-7, nil, 2, 3)},
	}
	for _, w := range fewGames() {
		games = append(games, w.game)
	}
	for i, g := range games {
		same := cloneGame(g)
		if !impl.SameGame(g, g) || !impl.SameGame(g, same) || !impl.SameGame(same, g) {
			t.Fatalf("%+v is not the same as itself", g)
		}
		for _, other := range spoiledGames(g) {
			if equal := equalGames(g, other); impl.SameGame(g, other) != equal || impl.SameGame(other, g) != equal {
				t.Fatalf("SameGame(%+v, %+v) is not %v", g, other, equal)
			}
			if !impl.SameGame(other, cloneGame(other)) {
				t.Fatalf("%+v is not the same as itself", other)
			}
		}
		for _, other := range games[:i] {
			if impl.SameGame(g, other) != equalGames(g, other) {
				t.Fatalf("SameGame(%+v, %+v) is wrong", g, other)
			}
		}
	}
}

// TestSameGameExchanged has games in which two numbers have exchanged their places.
func TestSameGameExchanged(t *testing.T) {
	a, b := positionOf(0, []int64{0, 1}, 1, 0, 2, 0), positionOf(1, []int64{0, 1}, 1, 1, 1, 0)
	g := impl.Game{Rules: circleRules, Start: a, Moves: []int64{0, 1}, Now: b, Resigned: -1}
	if other := (impl.Game{Rules: circleRules, Start: b, Moves: []int64{0, 1}, Now: a, Resigned: -1}); impl.SameGame(g, other) {
		t.Error("games with the first and the last position exchanged are the same")
	}
	if other := (impl.Game{Rules: circleRules, Start: a, Moves: []int64{1, 0}, Now: b, Resigned: -1}); impl.SameGame(g, other) {
		t.Error("games with two moves exchanged are the same")
	}
}

// TestGamesWithoutMoves checks that lists that are nil and lists that are empty are the same.
func TestGamesWithoutMoves(t *testing.T) {
	for _, p := range []impl.Position{circleStart(), positionOf(1, []int64{3, 4}, 0, 1, 2, 0), positionOf(1, []int64{0, 0}, 0, 0, 0, 0)} {
		for _, moves := range [][]int64{nil, {}, make([]int64, 0, 3)} {
			w := beginGame(circleRules, p)
			w.game.Moves = moves
			checkGame(t, w)
			if begun, _ := impl.GameFrom(circleRules, p); !impl.SameGame(begun, w.game) || !impl.SameGame(w.game, begun) {
				t.Errorf("the games without moves %#v and %#v differ", begun, w.game)
			}
		}
	}
	empty := impl.Game{Start: positionOf(0, []int64{}), Moves: []int64{}, Now: positionOf(0, []int64{}, []int64{}...)}
	if !impl.SameGame(empty, impl.Game{}) || !impl.SameGame(impl.Game{}, empty) {
		t.Error("the zero game and a game of empty lists differ")
	}
}

// spaciousGame returns g with marks in the unused capacity of its lists, and a function that tells whether all is as it was.
func spaciousGame(g impl.Game) (impl.Game, func() bool) {
	start, same := spacious(g.Start)
	now, alike := spacious(g.Now)
	moves, unchanged := spacious(impl.Position{Pits: g.Moves})
	g.Start, g.Now, g.Moves = start, now, moves.Pits
	return g, func() bool { return same() && alike() && unchanged() }
}

func TestGamesLeaveTheirArguments(t *testing.T) {
	for _, w := range fewGames() {
		given, _ := w.given(0)
		games := append(invalidGames(w), w.game, w.game, given.game)
		for i, g := range games {
			if i%4 != 0 && i < len(games)-3 {
				continue
			}
			one, same := spaciousGame(g)
			moves, unchanged := spacious(impl.Position{Pits: []int64{0, 1, 0, 0}})
			for _, move := range append(allMovesOf(circleRules), -1, 9) {
				resultsOfGames(one, w.game, one.Start, move, moves.Pits)
				resultsOfGames(w.game, one, one.Now, move, moves.Pits[:2])
			}
			if !same() || !unchanged() {
				t.Fatalf("%+v was changed", g)
			}
		}
	}
}

// listsOf has all lists of a game.
func listsOf(g impl.Game) [][]int64 {
	return [][]int64{g.Start.Pits, g.Start.Stores, g.Moves, g.Now.Pits, g.Now.Stores}
}

// checkApart checks that no two of some lists share memory.
func checkApart(t *testing.T, what string, lists [][]int64) {
	t.Helper()
	var want [][]int64
	for _, list := range lists {
		want = append(want, slices.Clone(list))
	}
	for i, list := range lists {
		ruinList(list)
		for j := i + 1; j < len(lists); j++ {
			if !slices.Equal(lists[j], want[j]) {
				t.Fatalf("%s: the lists %d and %d share memory", what, i, j)
			}
		}
	}
}

func TestGamesAreNewMemory(t *testing.T) {
	for _, w := range fewGames() {
		g, unchanged := spaciousGame(w.game)
		more, same := spacious(impl.Position{Pits: allMovesOf(g.Rules)})
		makers := map[string]func() impl.Game{
			"NewGame":           func() impl.Game { got, _ := impl.NewGame(g.Rules); return got },
			"GameFrom":          func() impl.Game { got, _ := impl.GameFrom(g.Rules, g.Now); return got },
			"UndoMove":          func() impl.Game { got, _ := impl.UndoMove(g); return got },
			"ResignGame":        func() impl.Game { got, _ := impl.ResignGame(g, 1); return got },
			"PlayMoves":         func() impl.Game { got, _, _ := impl.PlayMoves(g, more.Pits); return got },
			"PlayMoves of none": func() impl.Game { got, _, _ := impl.PlayMoves(g, nil); return got },
		}
		for _, move := range allMovesOf(g.Rules) {
			makers["PlayMove"+impl.Decimal(move)] = func() impl.Game { got, _ := impl.PlayMove(g, move); return got }
		}
		for name, do := range makers {
			first, second := do(), do()
			want := cloneGame(second)
			checkApart(t, name, listsOf(first))
			if !unchanged() || !same() || !equalGames(second, want) || !equalGames(do(), want) {
				t.Fatalf("%s of %+v shares memory", name, w.game)
			}
		}
	}
}

func TestListsOfGamesAreNewMemory(t *testing.T) {
	for _, w := range fewGames() {
		g, unchanged := spaciousGame(w.game)
		history, _ := impl.HistoryOf(g)
		movers, _ := impl.MoversOf(g)
		gains, _ := impl.GainsOf(g)
		lists := [][]int64{movers, gains}
		for _, p := range history {
			lists = append(lists, p.Pits, p.Stores)
		}
		checkApart(t, "HistoryOf", lists)
		for i := range history[:cap(history)] {
			history[:cap(history)][i] = impl.Position{}
		}
		if !unchanged() {
			t.Fatalf("what is told of %+v shares memory with it", w.game)
		}
		w.game = g
		checkLists(t, w)
	}
}
