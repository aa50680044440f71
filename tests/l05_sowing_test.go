package tests

import (
	"math"
	"math/rand"
	"slices"
	"testing"

	"loop.example/g00926/impl"
)

// sowingRules has each kind of sowing for a number of pits.
func sowingRules(pits int64) []impl.Rules {
	var all []impl.Rules
	for bits := range 8 {
		all = append(all, impl.Rules{Pits: pits, Seeds: 1 + pits%6, Stores: bits&1 != 0, Skip: bits&2 != 0, Relay: bits&4 != 0})
	}
	return all
}

// allSowingRules has each kind of sowing for each number of pits.
func allSowingRules() []impl.Rules {
	var all []impl.Rules
	for pits := int64(2); pits <= 8; pits++ {
		all = append(all, sowingRules(pits)...)
	}
	return all
}

// wayFrom has the places of one round of a lap of a player, by what the chapter says of them.
func wayFrom(r impl.Rules, player, pit int64) []int64 {
	var board []int64
	for place := range 2 * r.Pits {
		board = append(board, place)
		if r.Stores && place == player*r.Pits+r.Pits-1 {
			board = append(board, -1)
		}
	}
	at := slices.Index(board, pit)
	way := slices.Concat(board[at+1:], board[:at])
	if !r.Skip {
		way = append(way, pit)
	}
	return way
}

// addLap sows one lap by whole rounds, and returns the places of its seeds, and whether a further lap begins at the last one.
func addLap(r impl.Rules, s *impl.Sown, player, pit int64) ([]int64, bool) {
	way, seeds := wayFrom(r, player, pit), s.Pits[pit]
	s.Pits[pit] = 0
	rounds, rest := seeds/int64(len(way)), seeds%int64(len(way))
	for i, place := range way {
		n := rounds
		if int64(i) < rest {
			n++
		}
		if place < 0 {
			s.Stores[player] += n
		} else {
			s.Pits[place] += n
		}
	}
	path := append(slices.Repeat(way, int(rounds)), way[:rest]...)
	s.Last = path[len(path)-1]
	s.Laps++
	return path, r.Relay && s.Last >= 0 && s.Pits[s.Last] > 1
}

type expectedMove struct {
	first   impl.Sown
	all     impl.Sown
	path    []int64
	endless bool
}

// expectMove is what must come of a move from a pit that is not empty.
func expectMove(r impl.Rules, p impl.Position, move int64) expectedMove {
	s := impl.Sown{Pits: slices.Clone(p.Pits), Stores: slices.Clone(p.Stores)}
	pit := p.Player*r.Pits + move
	path, relays := addLap(r, &s, p.Player, pit)
	want := expectedMove{first: cloneSown(s), path: path}
	for relays {
		if s.Laps == 100 {
			return expectedMove{first: want.first, endless: true}
		}
		path, relays = addLap(r, &s, p.Player, s.Last)
		want.path = append(want.path, path...)
	}
	want.all = s
	return want
}

func cloneSown(s impl.Sown) impl.Sown {
	return impl.Sown{Pits: slices.Clone(s.Pits), Stores: slices.Clone(s.Stores), Last: s.Last, Laps: s.Laps}
}

// equalSown compares without the functions that are tested.
func equalSown(a, b impl.Sown) bool {
	return slices.Equal(a.Pits, b.Pits) && slices.Equal(a.Stores, b.Stores) && a.Last == b.Last && a.Laps == b.Laps
}

// checkSowing checks all that the functions of the chapter return for a move from a pit that is not empty.
func checkSowing(t *testing.T, r impl.Rules, p impl.Position, move int64, want expectedMove) {
	t.Helper()
	code := int64(impl.OK)
	if want.endless {
		code = impl.ErrEndless
	}
	if got, one := impl.SowLap(r, p, move); !equalSown(got, want.first) || one != impl.OK {
		t.Fatalf("%+v: SowLap(%+v, %d) = %+v, %d, want %+v", r, p, move, got, one, want.first)
	}
	if got, one := impl.SowMove(r, p, move); !equalSown(got, want.all) || one != code {
		t.Fatalf("%+v: SowMove(%+v, %d) = %+v, %d, want %+v, %d", r, p, move, got, one, want.all, code)
	}
	if got, one := impl.SowPath(r, p, move); !slices.Equal(got, want.path) || one != code {
		t.Fatalf("%+v: SowPath(%+v, %d) = %v, %d, want %v, %d", r, p, move, got, one, want.path, code)
	}
	if got := impl.IsEndless(r, p, move); got != want.endless {
		t.Fatalf("%+v: IsEndless(%+v, %d) = %v", r, p, move, got)
	}
}

// checkNoSowing checks that a move cannot be sown.
func checkNoSowing(t *testing.T, r impl.Rules, p impl.Position, move, want int64) {
	t.Helper()
	if got, code := impl.SowLap(r, p, move); !equalSown(got, impl.Sown{}) || code != want {
		t.Fatalf("%+v: SowLap(%+v, %d) = %+v, %d, want code %d", r, p, move, got, code, want)
	}
	if got, code := impl.SowMove(r, p, move); !equalSown(got, impl.Sown{}) || code != want {
		t.Fatalf("%+v: SowMove(%+v, %d) = %+v, %d, want code %d", r, p, move, got, code, want)
	}
	if got, code := impl.SowPath(r, p, move); len(got) != 0 || code != want {
		t.Fatalf("%+v: SowPath(%+v, %d) = %v, %d, want code %d", r, p, move, got, code, want)
	}
	if impl.IsEndless(r, p, move) {
		t.Fatalf("%+v: IsEndless(%+v, %d) with code %d", r, p, move, want)
	}
}

func TestMaxLaps(t *testing.T) {
	if impl.MaxLaps != 100 {
		t.Errorf("MaxLaps is %d", impl.MaxLaps)
	}
}

func TestExamplesOfSowing(t *testing.T) {
	kalah := standardTable()["kalah"]
	if place, code := impl.LastPlace(kalah, 0, 2, 4); place != -1 || code != impl.OK {
		t.Errorf("the last one of 4 seeds of move 2 falls into %d, %d", place, code)
	}
	start, _ := impl.StartPosition(kalah)
	end := impl.Sown{Pits: []int64{4, 4, 0, 5, 5, 5, 4, 4, 4, 4, 4, 4}, Stores: []int64{1, 0}, Last: -1, Laps: 1}
	checkSowing(t, kalah, start, 2, expectedMove{first: end, all: end, path: []int64{3, 4, 5, -1}})
	relay := standardTable()["relay"]
	start, _ = impl.StartPosition(relay)
	checkSowing(t, relay, start, 0, expectedMove{
		first: impl.Sown{Pits: []int64{0, 3, 3, 2, 2, 2, 2, 2}, Stores: []int64{0, 0}, Last: 2, Laps: 1},
		all:   impl.Sown{Pits: []int64{1, 3, 0, 3, 3, 0, 3, 3}, Stores: []int64{0, 0}, Last: 0, Laps: 3},
		path:  []int64{1, 2, 3, 4, 5, 6, 7, 0},
	})
}

// TestLongLaps has laps longer than a board of four pits, sown by hand, each with one lap.
func TestLongLaps(t *testing.T) {
	cases := []struct {
		stores, skip bool
		player, move int64
		seeds        int64
		pits, banked []int64
		last         int64
	}{
		{false, false, 0, 0, 4, []int64{1, 1, 1, 1}, []int64{0, 0}, 0},
		{false, false, 0, 0, 5, []int64{1, 2, 1, 1}, []int64{0, 0}, 1},
		{false, false, 0, 0, 8, []int64{2, 2, 2, 2}, []int64{0, 0}, 0},
		{false, false, 0, 0, 9, []int64{2, 3, 2, 2}, []int64{0, 0}, 1},
		{false, false, 1, 1, 95, []int64{24, 24, 24, 23}, []int64{0, 0}, 2},
		{false, true, 0, 0, 3, []int64{0, 1, 1, 1}, []int64{0, 0}, 3},
		{false, true, 0, 0, 4, []int64{0, 2, 1, 1}, []int64{0, 0}, 1},
		{false, true, 0, 0, 9, []int64{0, 3, 3, 3}, []int64{0, 0}, 3},
		{false, true, 1, 0, 96, []int64{32, 32, 0, 32}, []int64{0, 0}, 1},
		{true, false, 0, 0, 5, []int64{1, 1, 1, 1}, []int64{1, 0}, 0},
		{true, false, 0, 0, 7, []int64{1, 2, 1, 1}, []int64{2, 0}, -1},
		{true, false, 0, 1, 6, []int64{1, 1, 1, 1}, []int64{2, 0}, -1},
		{true, false, 1, 1, 9, []int64{2, 2, 2, 1}, []int64{0, 2}, 2},
		{true, false, 1, 0, 96, []int64{19, 19, 19, 20}, []int64{0, 19}, 3},
		{true, true, 0, 0, 4, []int64{0, 1, 1, 1}, []int64{1, 0}, 3},
		{true, true, 0, 0, 9, []int64{0, 3, 2, 2}, []int64{2, 0}, 1},
		{true, true, 0, 1, 5, []int64{1, 0, 1, 1}, []int64{2, 0}, -1},
		{true, true, 1, 1, 6, []int64{2, 1, 1, 0}, []int64{0, 2}, 0},
		{true, true, 1, 1, 96, []int64{24, 24, 24, 0}, []int64{0, 24}, 2},
	}
	for _, c := range cases {
		r := impl.Rules{Pits: 2, Seeds: 1, Stores: c.stores, Skip: c.skip}
		p := positionOf(c.player, []int64{0, 0}, 0, 0, 0, 0)
		p.Pits[2*c.player+c.move] = c.seeds
		want := impl.Sown{Pits: c.pits, Stores: c.banked, Last: c.last, Laps: 1}
		for _, sow := range []func(impl.Rules, impl.Position, int64) (impl.Sown, int64){impl.SowLap, impl.SowMove} {
			if got, code := sow(r, p, c.move); !equalSown(got, want) || code != impl.OK {
				t.Errorf("%+v: %+v leads to %+v, %d, want %+v", r, p, got, code, want)
			}
		}
		if last, code := impl.LastPlace(r, c.player, c.move, c.seeds); last != c.last || code != impl.OK {
			t.Errorf("%+v: LastPlace(%d, %d, %d) = %d, %d, want %d", r, c.player, c.move, c.seeds, last, code, c.last)
		}
	}
}

// TestRelayAfterLongLaps has moves sown by hand: a lap around the board ends in a pit that is emptied, or has seeds of the same lap.
func TestRelayAfterLongLaps(t *testing.T) {
	cases := []struct {
		stores, skip bool
		seeds        int64
		pits, banked []int64
		path         []int64
		laps         int64
	}{
		{false, false, 4, []int64{1, 1, 1, 1}, []int64{0, 0}, []int64{1, 2, 3, 0}, 1},
		{false, false, 5, []int64{2, 1, 2, 0}, []int64{0, 0}, []int64{1, 2, 3, 0, 1, 2, 3, 0, 1}, 3},
		{false, false, 8, []int64{2, 1, 1, 4}, []int64{0, 0}, []int64{1, 2, 3, 0, 1, 2, 3, 0, 1, 2, 3, 0, 1, 2, 3, 0, 1}, 4},
		{false, true, 4, []int64{1, 1, 2, 0}, []int64{0, 0}, []int64{1, 2, 3, 1, 2, 3, 0, 1}, 3},
		{true, false, 5, []int64{1, 1, 1, 1}, []int64{1, 0}, []int64{1, -1, 2, 3, 0}, 1},
		{true, false, 7, []int64{1, 2, 1, 1}, []int64{2, 0}, []int64{1, -1, 2, 3, 0, 1, -1}, 1},
		{true, true, 5, []int64{1, 0, 0, 2}, []int64{2, 0}, []int64{1, -1, 2, 3, 1, -1, 2, 3, 0}, 3},
	}
	for _, c := range cases {
		r := impl.Rules{Pits: 2, Seeds: 1, Relay: true, Stores: c.stores, Skip: c.skip}
		p := positionOf(0, []int64{0, 0}, c.seeds, 0, 0, 0)
		want := impl.Sown{Pits: c.pits, Stores: c.banked, Last: c.path[len(c.path)-1], Laps: c.laps}
		if got, code := impl.SowMove(r, p, 0); !equalSown(got, want) || code != impl.OK {
			t.Errorf("%+v: %+v leads to %+v, %d, want %+v", r, p, got, code, want)
		}
		if got, code := impl.SowPath(r, p, 0); !slices.Equal(got, c.path) || code != impl.OK {
			t.Errorf("%+v: the path of %+v is %v, %d, want %v", r, p, got, code, c.path)
		}
	}
}

// TestSowing compares each kind of sowing with sowing by whole rounds, for all moves of many positions.
func TestSowing(t *testing.T) {
	relayed, ended := 0, 0
	for _, r := range allSowingRules() {
		for _, p := range append(validPositions(r), fullPositions(r)...) {
			for move := range r.Pits {
				if p.Pits[p.Player*r.Pits+move] == 0 {
					checkNoSowing(t, r, p, move, impl.ErrState)
					continue
				}
				want := expectMove(r, p, move)
				checkSowing(t, r, p, move, want)
				if want.endless {
					ended++
				} else if want.all.Laps > 1 {
					relayed++
				}
			}
		}
	}
	if relayed < 1000 || ended < 10 {
		t.Errorf("only %d moves with further laps and %d endless ones were tried", relayed, ended)
	}
}

// fullPositions has positions with seeds in most pits.
func fullPositions(r impl.Rules) []impl.Position {
	random := rand.New(rand.NewSource(r.Pits))
	var all []impl.Position
	for range 60 {
		pits := make([]int64, 2*r.Pits)
		for range 1 + random.Intn(96) {
			pits[random.Intn(len(pits))]++
		}
		all = append(all, positionOf(random.Int63n(2), []int64{0, 0}, pits...))
	}
	return all
}

// TestSowingKeepsSeeds is promise 5, without what else is known of sowing.
func TestSowingKeepsSeeds(t *testing.T) {
	for _, r := range append(allSowingRules(), boards()...) {
		for _, p := range append(validPositions(r), fullPositions(r)...) {
			seeds := bigSum(numbersOf(p)).Int64()
			for move := range r.Pits {
				lap, code := impl.SowLap(r, p, move)
				if code == impl.OK && (impl.SownSeeds(lap) != seeds || bigSum(slices.Concat(lap.Pits, lap.Stores)).Int64() != seeds) {
					t.Fatalf("%+v: SowLap(%+v, %d) = %+v", r, p, move, lap)
				}
				all, code := impl.SowMove(r, p, move)
				if code == impl.OK && (impl.SownSeeds(all) != seeds || bigSum(slices.Concat(all.Pits, all.Stores)).Int64() != seeds) {
					t.Fatalf("%+v: SowMove(%+v, %d) = %+v", r, p, move, all)
				}
				for _, s := range []impl.Sown{lap, all} {
					if code == impl.OK && (slices.Min(s.Pits) < 0 || s.Stores[1-p.Player] != p.Stores[1-p.Player]) {
						t.Fatalf("%+v: %+v leads to %+v", r, p, s)
					}
				}
			}
		}
	}
}

// TestSowingByOtherRules checks that captures, feeding and moving again do not change what is sown.
func TestSowingByOtherRules(t *testing.T) {
	for _, r := range sowingRules(3) {
		for _, p := range fullPositions(r)[:10] {
			for move := range r.Pits {
				if p.Pits[p.Player*r.Pits+move] == 0 {
					continue
				}
				want := expectMove(r, p, move)
				eachRules(func(other impl.Rules) {
					if other.Pits == r.Pits && other.Stores == r.Stores && other.Skip == r.Skip && other.Relay == r.Relay {
						checkSowing(t, other, p, move, want)
					}
				})
			}
		}
	}
}

// limitCase is a position in which a move has just some number of laps.
type limitCase struct {
	stores, skip bool
	pits         int64
	text         string
	move         int64
	laps         int64
}

func limitCases() []limitCase {
	return []limitCase{
		{false, false, 2, "0 42,10/8,26 0,0", 0, 99},
		{false, false, 2, "0 22,19/12,11 0,0", 0, 100},
		{false, false, 2, "0 1,7/11,12 0,0", 1, 101},
		{false, false, 4, "1 4,5,22,19/12,0,4,16 0,0", 0, 100},
		{false, false, 4, "1 0,13,9,15/14,14,2,10 0,0", 0, 101},
		{false, false, 8, "0 1,0,1,8,1,8,11,1/9,12,2,5,12,8,5,0 0,0", 5, 100},
		{false, false, 8, "0 2,1,4,5,1,7,10,4/3,7,6,3,8,14,2,8 0,0", 2, 101},
		{false, true, 2, "1 11,2/28,13 0,0", 0, 100},
		{false, true, 2, "1 11,20/4,21 0,0", 1, 101},
		{false, true, 3, "1 7,9,19/2,4,15 0,0", 1, 100},
		{false, true, 3, "1 4,16,1/13,27,6 0,0", 1, 101},
		{true, false, 8, "0 1,7,1,5,17,0,4,0/16,1,3,17,12,0,6,0 0,0", 6, 99},
		{true, false, 8, "1 0,2,14,26,1,9,2,1/18,2,4,0,2,5,4,0 0,0", 6, 100},
		{true, false, 8, "1 15,0,13,0,1,0,3,10/7,18,1,0,1,18,2,1 0,0", 5, 101},
		{true, true, 8, "0 9,2,18,1,1,6,15,5/1,13,0,5,1,0,5,8 0,0", 7, 99},
		{true, true, 8, "0 9,2,18,1,1,2,15,5/1,13,0,5,1,0,9,8 0,0", 7, 100},
		{true, true, 8, "0 9,4,18,1,3,0,15,5/1,11,0,5,1,0,9,8 0,0", 7, 101},
		// These have no last lap at all.
		{false, false, 4, "0 2,0,2,1/2,1,0,1 0,0", 0, 1000},
		{false, true, 3, "0 2,0,1/3,2,1 0,0", 0, 1000},
	}
}

// lapsOfMove counts the laps of a move, also where it is endless, up to a limit.
func lapsOfMove(r impl.Rules, p impl.Position, move, limit int64) int64 {
	s := impl.Sown{Pits: slices.Clone(p.Pits), Stores: slices.Clone(p.Stores)}
	_, relays := addLap(r, &s, p.Player, p.Player*r.Pits+move)
	for relays && s.Laps < limit {
		_, relays = addLap(r, &s, p.Player, s.Last)
	}
	return s.Laps
}

func TestEndlessMoves(t *testing.T) {
	for _, c := range limitCases() {
		r := impl.Rules{Pits: c.pits, Seeds: 1, Relay: true, Stores: c.stores, Skip: c.skip}
		p, ok := impl.ReadPosition(r, c.text)
		if laps := lapsOfMove(r, p, c.move, 1000); !ok || laps != c.laps {
			t.Fatalf("%+v: move %d of %q has %d laps", r, c.move, c.text, laps)
		}
		want := expectMove(r, p, c.move)
		if want.endless != (c.laps > 100) || !want.endless && want.all.Laps != c.laps {
			t.Fatalf("%+v: move %d of %q is expected to be %+v", r, c.move, c.text, want)
		}
		checkSowing(t, r, p, c.move, want)
		r.Relay = false
		checkSowing(t, r, p, c.move, expectMove(r, p, c.move))
	}
}

// TestRelayEndsInStore gives the last seed to a store with seeds: no further lap begins there.
func TestRelayEndsInStore(t *testing.T) {
	for _, r := range allSowingRules() {
		if !r.Stores {
			continue
		}
		for player := range int64(2) {
			p := positionOf(player, []int64{5, 5}, slices.Repeat([]int64{2}, int(2*r.Pits))...)
			s, code := impl.SowMove(r, p, r.Pits-2)
			if s.Last != -1 || s.Laps != 1 || code != impl.OK || s.Stores[player] != 6 || s.Stores[1-player] != 5 {
				t.Errorf("%+v: %+v leads to %+v, %d", r, p, s, code)
			}
		}
	}
}

func TestErrorsOfSowing(t *testing.T) {
	for _, r := range allSowingRules() {
		for _, p := range validPositions(r)[:8] {
			for _, move := range append([]int64{r.Pits, r.Pits + 1, 2 * r.Pits}, extremes...) {
				checkNoSowing(t, r, p, move, impl.ErrRange)
			}
		}
		for player := range int64(2) {
			pits := slices.Repeat([]int64{1}, int(2*r.Pits))
			clear(pits[player*r.Pits:][:r.Pits])
			p := positionOf(player, []int64{1, 1}, pits...)
			for move := range r.Pits {
				checkNoSowing(t, r, p, move, impl.ErrState)
			}
			checkNoSowing(t, r, p, r.Pits, impl.ErrRange)
			checkNoSowing(t, r, p, -1, impl.ErrRange)
		}
	}
	invalidPairs(func(r impl.Rules, p impl.Position) {
		for _, move := range []int64{0, 1, r.Pits, -1, math.MinInt64, math.MaxInt64} {
			checkNoSowing(t, r, p, move, impl.ErrInvalid)
		}
	})
}

func TestSameSown(t *testing.T) {
	for _, r := range boards() {
		for _, p := range append(validPositions(r), invalidPositions(r)...) {
			a := impl.Sown{Pits: p.Pits, Stores: p.Stores, Last: p.Player, Laps: 3}
			if !impl.SameSown(a, a) || !impl.SameSown(a, cloneSown(a)) {
				t.Errorf("%+v is not the same as itself", a)
			}
			for _, q := range spoiled(p) {
				b := impl.Sown{Pits: q.Pits, Stores: q.Stores, Last: q.Player, Laps: 3}
				if impl.SameSown(a, b) || impl.SameSown(b, a) {
					t.Errorf("%+v and %+v are the same", a, b)
				}
			}
			for _, laps := range append([]int64{2, 4}, extremes...) {
				b := cloneSown(a)
				b.Laps = laps
				if impl.SameSown(a, b) || impl.SameSown(b, a) {
					t.Errorf("%+v and %+v are the same", a, b)
				}
			}
		}
	}
	empty := impl.Sown{Pits: []int64{}, Stores: []int64{}}
	if !impl.SameSown(empty, impl.Sown{}) || !impl.SameSown(impl.Sown{}, empty) {
		t.Error("lists that are nil and lists that are empty differ")
	}
}

func TestSownSeeds(t *testing.T) {
	cases := []struct {
		pits, stores []int64
		want         int64
	}{
		{nil, nil, 0},
		{[]int64{}, []int64{}, 0},
		{[]int64{4}, nil, 4},
		{nil, []int64{3, 2, 1}, 6},
		{[]int64{1, 2, 3, 4}, []int64{10, 20}, 40},
		{[]int64{1, 0, 2, 0, 3}, []int64{7}, 13},
		{[]int64{-5, 2}, []int64{1}, -2},
		{[]int64{math.MaxInt64, -1}, []int64{0, math.MinInt64}, -2},
		{[]int64{math.MinInt64}, nil, math.MinInt64},
		{nil, []int64{math.MaxInt64}, math.MaxInt64},
	}
	for _, c := range cases {
		for _, n := range append([]int64{0, 1}, extremes...) {
			s := impl.Sown{Pits: c.pits, Stores: c.stores, Last: n, Laps: n}
			if got := impl.SownSeeds(s); got != c.want {
				t.Errorf("SownSeeds(%+v) = %d, want %d", s, got, c.want)
			}
		}
	}
}

func TestLapLength(t *testing.T) {
	for name, want := range map[string]int64{"kalah": 13, "mini": 6, "oware": 11, "relay": 8} {
		if got, code := impl.LapLength(standardTable()[name]); got != want || code != impl.OK {
			t.Errorf("LapLength(%s) = %d, %d, want %d", name, got, code, want)
		}
	}
	eachRules(func(r impl.Rules) {
		want := 2*r.Pits + bit(r.Stores) - bit(r.Skip)
		if got, code := impl.LapLength(r); got != want || code != impl.OK {
			t.Errorf("LapLength(%+v) = %d, %d, want %d", r, got, code, want)
		}
	})
	for _, r := range invalidRules() {
		if got, code := impl.LapLength(r); got != 0 || code != impl.ErrInvalid {
			t.Errorf("LapLength(%+v) = %d, %d, want ErrInvalid", r, got, code)
		}
	}
}

// TestLastPlace tries all numbers of seeds of all moves, and also sows them.
func TestLastPlace(t *testing.T) {
	for _, r := range allSowingRules() {
		length, _ := impl.LapLength(r)
		for pit := range 2 * r.Pits {
			player, move := pit/r.Pits, pit%r.Pits
			way := wayFrom(r, player, pit)
			if int64(len(way)) != length {
				t.Fatalf("%+v: a lap comes around after %d seeds, not %d", r, len(way), length)
			}
			for seeds := int64(1); seeds <= 96; seeds++ {
				want := way[(seeds-1)%length]
				if got, code := impl.LastPlace(r, player, move, seeds); got != want || code != impl.OK {
					t.Fatalf("%+v: LastPlace(%d, %d, %d) = %d, %d, want %d", r, player, move, seeds, got, code, want)
				}
				p := positionOf(player, []int64{0, 0}, make([]int64, 2*r.Pits)...)
				p.Pits[pit] = seeds
				if s, code := impl.SowLap(r, p, move); s.Last != want || s.Laps != 1 || code != impl.OK {
					t.Fatalf("%+v: SowLap(%+v, %d) = %+v, %d, want the last place %d", r, p, move, s, code, want)
				}
			}
		}
	}
}

func TestErrorsOfLastPlace(t *testing.T) {
	check := func(r impl.Rules, player, move, seeds, want int64) {
		t.Helper()
		if got, code := impl.LastPlace(r, player, move, seeds); got != 0 || code != want {
			t.Errorf("LastPlace(%+v, %d, %d, %d) = %d, %d, want code %d", r, player, move, seeds, got, code, want)
		}
	}
	wrong := []int64{math.MinInt64, math.MinInt64 + 1, -100, -1, 100, 1 << 32, math.MaxInt64 - 1, math.MaxInt64}
	for _, r := range append(allSowingRules(), boards()...) {
		for _, n := range wrong {
			check(r, 0, 0, n, impl.ErrRange)
			check(r, 1, 1, n, impl.ErrRange)
			check(r, 0, n, 1, impl.ErrRange)
			check(r, 1, n, 96, impl.ErrRange)
			check(r, n, 0, 1, impl.ErrRange)
			check(r, n, n, n, impl.ErrRange)
		}
		check(r, 0, 0, 0, impl.ErrRange)
		check(r, 0, 0, 97, impl.ErrRange)
		check(r, 1, r.Pits-1, 97, impl.ErrRange)
		check(r, 0, r.Pits, 1, impl.ErrRange)
		check(r, 1, r.Pits, 96, impl.ErrRange)
		check(r, 2, 0, 1, impl.ErrRange)
	}
	for _, r := range invalidRules() {
		for _, n := range append([]int64{0, 1}, wrong...) {
			check(r, 0, 0, n, impl.ErrInvalid)
			check(r, 1, n, 1, impl.ErrInvalid)
			check(r, n, 0, 4, impl.ErrInvalid)
			check(r, n, n, n, impl.ErrInvalid)
		}
	}
}

func TestSowingLeavesItsArguments(t *testing.T) {
	for _, r := range append(allSowingRules(), boards()...) {
		for _, p := range append(validPositions(r), invalidPositions(r)...) {
			q, unchanged := spacious(p)
			resultsOfSowing(r, q, impl.Sown{Pits: q.Pits, Stores: q.Stores}, 0, r.Pits-1, 5)
			if !unchanged() {
				t.Fatalf("%+v: %+v was changed", r, p)
			}
		}
	}
}

// ruinList overwrites a list with its unused capacity.
func ruinList(list []int64) {
	ruin(impl.Position{Pits: list})
}

func TestSownIsNewMemory(t *testing.T) {
	for _, r := range allSowingRules() {
		for _, p := range fullPositions(r)[:20] {
			q, unchanged := spacious(p)
			for _, sow := range []func(impl.Rules, impl.Position, int64) (impl.Sown, int64){impl.SowLap, impl.SowMove} {
				first, _ := sow(r, q, 1)
				second, code := sow(r, q, 1)
				want := cloneSown(second)
				ruinList(first.Pits)
				ruinList(first.Stores)
				if again, other := sow(r, q, 1); !unchanged() || !equalSown(second, want) || !equalSown(again, want) || other != code {
					t.Fatalf("%+v: what is sown from %+v shares memory", r, p)
				}
				ruinList(second.Pits)
				if !slices.Equal(second.Stores, want.Stores) {
					t.Fatalf("%+v: what is sown from %+v has pits and stores in the same memory", r, p)
				}
			}
			path, _ := impl.SowPath(r, q, 1)
			want := slices.Clone(path)
			ruinList(path)
			if again, _ := impl.SowPath(r, q, 1); !unchanged() || !slices.Equal(again, want) {
				t.Fatalf("%+v: a path from %+v shares memory", r, p)
			}
		}
	}
}
