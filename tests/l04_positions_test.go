package tests

import (
	"fmt"
	"math"
	"math/big"
	"math/rand"
	"regexp"
	"slices"
	"strconv"
	"strings"
	"testing"

	"loop.example/g00926/impl"
)

func positionOf(player int64, stores []int64, pits ...int64) impl.Position {
	return impl.Position{Pits: pits, Stores: stores, Player: player}
}

// clonePosition has no memory in common with p, and keeps what is nil and what is empty.
func clonePosition(p impl.Position) impl.Position {
	return impl.Position{Pits: slices.Clone(p.Pits), Stores: slices.Clone(p.Stores), Player: p.Player}
}

// sameNumbers compares positions without the functions that are tested.
func sameNumbers(a, b impl.Position) bool {
	return slices.Equal(a.Pits, b.Pits) && slices.Equal(a.Stores, b.Stores) && a.Player == b.Player
}

func isZeroPosition(p impl.Position) bool {
	return len(p.Pits) == 0 && len(p.Stores) == 0 && p.Player == 0
}

func numbersOf(p impl.Position) []int64 {
	return slices.Concat(p.Pits, p.Stores)
}

// bigSum has the sum of any numbers.
func bigSum(list []int64) *big.Int {
	sum := new(big.Int)
	for _, n := range list {
		sum.Add(sum, big.NewInt(n))
	}
	return sum
}

// mustBeValid says what the chapter says of a valid position.
func mustBeValid(r impl.Rules, p impl.Position) bool {
	if !impl.ValidRules(r) || len(p.Pits) != 2*int(r.Pits) || len(p.Stores) != 2 || p.Player != 0 && p.Player != 1 {
		return false
	}
	list := numbersOf(p)
	return slices.Min(list) >= 0 && bigSum(list).Cmp(big.NewInt(96)) <= 0
}

// somePosition puts a number of seeds anywhere.
func somePosition(random *rand.Rand, r impl.Rules, seeds int64) impl.Position {
	list := make([]int64, 2*r.Pits+2)
	for seeds > 0 {
		part := 1 + random.Int63n(seeds)
		list[random.Intn(len(list))] += part
		seeds -= part
	}
	return impl.Position{Pits: list[: 2*r.Pits : 2*r.Pits], Stores: list[2*r.Pits:], Player: random.Int63n(2)}
}

// boards has rules with each number of pits.
func boards() []impl.Rules {
	var all []impl.Rules
	for pits := int64(2); pits <= 8; pits++ {
		all = append(all, impl.Rules{Pits: pits, Seeds: 1 + pits%6, Stores: pits%2 == 0, Capture: pits % 4})
	}
	for _, name := range impl.StandardNames() {
		all = append(all, standardTable()[name])
	}
	return append(all, impl.Rules{Pits: 8, Seeds: 6})
}

// validPositions has positions that are valid for r, also those at the limits.
func validPositions(r impl.Rules) []impl.Position {
	random := rand.New(rand.NewSource(r.Pits*100 + r.Seeds))
	var all []impl.Position
	for _, seeds := range []int64{0, 1, 2, 3, 5, 2 * r.Pits * r.Seeds, 60, 95, 96} {
		for range 4 {
			all = append(all, somePosition(random, r, seeds))
		}
	}
	size := int(2 * r.Pits)
	for place := range size + 2 {
		list := make([]int64, size+2)
		list[place] = 96
		all = append(all, impl.Position{Pits: list[:size:size], Stores: list[size:], Player: int64(place % 2)})
	}
	rising := make([]int64, size)
	for i := range rising {
		rising[i] = int64(i) % 5
	}
	return append(all, positionOf(0, []int64{4, 3}, rising...), positionOf(1, []int64{0, 9}, rising...))
}

// invalidPositions has positions that are not valid for r, each for one reason.
func invalidPositions(r impl.Rules) []impl.Position {
	size := int(2 * r.Pits)
	var bad []impl.Position
	add := func(change func(p *impl.Position)) {
		p := positionOf(1, []int64{1, 2}, slices.Repeat([]int64{1}, size)...)
		change(&p)
		bad = append(bad, p)
	}
	for _, length := range []int{0, 1, size / 2, size - 1, size + 1, 2 * size} {
		add(func(p *impl.Position) { p.Pits = make([]int64, length) })
	}
	for _, length := range []int{0, 1, 3, 4} {
		add(func(p *impl.Position) { p.Stores = make([]int64, length) })
	}
	add(func(p *impl.Position) { p.Pits = nil })
	add(func(p *impl.Position) { p.Stores = nil })
	add(func(p *impl.Position) { p.Pits, p.Stores = append(p.Pits, p.Stores[0]), p.Stores[1:] })
	for _, n := range []int64{math.MinInt64, math.MinInt64 + 1, -2, -1, 2, 3, math.MaxInt64} {
		add(func(p *impl.Position) { p.Player = n })
	}
	for _, n := range []int64{math.MinInt64, math.MinInt64 + 3, -100, -1, 97, 1 << 32, math.MaxInt64} {
		for place := range size {
			add(func(p *impl.Position) { p.Pits[place] = n })
		}
		add(func(p *impl.Position) { p.Stores[0] = n })
		add(func(p *impl.Position) { p.Stores[1] = n })
	}
	return append(append(bad, tooManySeeds(size)...), impl.Position{})
}

// tooManySeeds has positions with one seed too many, and with sums that are few seeds again where an int64 runs over.
func tooManySeeds(size int) []impl.Position {
	var bad []impl.Position
	add := func(numbers map[int]int64) {
		list := make([]int64, size+2)
		for place, n := range numbers {
			list[place] = n
		}
		bad = append(bad, impl.Position{Pits: list[:size], Stores: list[size:]})
	}
	for place := range size + 2 {
		add(map[int]int64{place: 97})
		add(map[int]int64{place: 96, (place + 1) % (size + 2): 1})
		add(map[int]int64{place: 1, (place + 1) % (size + 2): 96})
	}
	add(map[int]int64{0: math.MaxInt64, 1: math.MaxInt64, 2: 2})
	add(map[int]int64{0: 2, size - 1: math.MaxInt64, size: math.MaxInt64})
	add(map[int]int64{size: math.MaxInt64, size + 1: math.MaxInt64, 0: 10})
	add(map[int]int64{0: 1 << 62, 1: 1 << 62, 2: 1 << 62, 3: 1 << 62})
	add(map[int]int64{1: math.MaxInt64, size: 1})
	add(map[int]int64{size: math.MaxInt64, size + 1: 1})
	add(map[int]int64{0: math.MinInt64, 1: math.MinInt64})
	add(map[int]int64{0: 97, 1: -1})
	add(map[int]int64{0: -1, 1: 1})
	return bad
}

func TestMaxSeeds(t *testing.T) {
	if impl.MaxSeeds != 96 {
		t.Errorf("MaxSeeds is %d", impl.MaxSeeds)
	}
}

func TestValidPosition(t *testing.T) {
	for _, r := range boards() {
		for _, p := range validPositions(r) {
			if !mustBeValid(r, p) || !impl.ValidPosition(r, p) {
				t.Errorf("%+v: a valid position is refused: %+v", r, p)
			}
		}
		for _, p := range invalidPositions(r) {
			if mustBeValid(r, p) || impl.ValidPosition(r, p) {
				t.Errorf("%+v: an invalid position is accepted: %+v", r, p)
			}
		}
		for _, other := range boards() {
			if p := validPositions(other)[3]; impl.ValidPosition(r, p) != (r.Pits == other.Pits) {
				t.Errorf("%+v: ValidPosition of %+v", r, p)
			}
		}
	}
	for _, r := range invalidRules() {
		for _, other := range boards() {
			if p := validPositions(other)[0]; impl.ValidPosition(r, p) {
				t.Errorf("%+v: a position is valid for rules that are not: %+v", r, p)
			}
		}
		if impl.ValidPosition(r, impl.Position{}) || impl.ValidPosition(r, impl.Position{Stores: make([]int64, 2)}) {
			t.Errorf("%+v: a position without pits is valid", r)
		}
	}
}

// TestValidPositionOfOtherBoards tries boards whose number of pits fits, but is none that rules allow.
func TestValidPositionOfOtherBoards(t *testing.T) {
	for _, pits := range []int64{0, 1, 9} {
		r := impl.Rules{Pits: pits, Seeds: 1}
		p := positionOf(0, []int64{0, 0}, make([]int64, 2*pits)...)
		if impl.ValidPosition(r, p) || impl.IsWhole(r, p) || impl.PositionText(r, p) != "" {
			t.Errorf("a position of %d pits is valid", pits)
		}
	}
	// Twice these numbers of pits are 4 and 0 where an int64 runs over.
	for _, pits := range []int64{math.MinInt64 + 2, math.MinInt64} {
		r := impl.Rules{Pits: pits, Seeds: 1}
		for _, length := range []int{0, 4} {
			p := positionOf(0, []int64{0, 0}, make([]int64, length)...)
			if impl.ValidPosition(r, p) {
				t.Errorf("a position is valid for %+v", r)
			}
		}
	}
}

// spoiled has positions that differ from p in one place.
func spoiled(p impl.Position) []impl.Position {
	var all []impl.Position
	add := func(change func(q *impl.Position)) {
		q := clonePosition(p)
		change(&q)
		all = append(all, q)
	}
	for i := range p.Pits {
		add(func(q *impl.Position) { q.Pits[i]++ })
		add(func(q *impl.Position) { q.Pits[i] -= 1 << 32 })
	}
	for i := range p.Stores {
		add(func(q *impl.Position) { q.Stores[i]-- })
	}
	for _, n := range []int64{1, -1, 1 << 32, math.MinInt64} {
		add(func(q *impl.Position) { q.Player += n })
	}
	add(func(q *impl.Position) { q.Pits = append(q.Pits, 0) })
	add(func(q *impl.Position) { q.Stores = append(q.Stores, 0) })
	if len(p.Pits) > 0 {
		add(func(q *impl.Position) { q.Pits = q.Pits[:len(q.Pits)-1] })
		add(func(q *impl.Position) { q.Pits = q.Pits[1:] })
		add(func(q *impl.Position) {
			q.Stores, q.Pits = append(q.Pits[len(q.Pits)-1:], q.Stores...), q.Pits[:len(q.Pits)-1]
		})
	}
	if len(p.Stores) > 0 {
		add(func(q *impl.Position) { q.Stores = nil })
		add(func(q *impl.Position) { q.Pits, q.Stores = append(q.Pits, q.Stores[0]), q.Stores[1:] })
	}
	return all
}

func TestSamePosition(t *testing.T) {
	var all []impl.Position
	for _, r := range boards() {
		all = append(append(all, validPositions(r)...), invalidPositions(r)...)
	}
	for _, p := range all {
		if !impl.SamePosition(p, p) || !impl.SamePosition(p, clonePosition(p)) {
			t.Errorf("%+v is not the same as itself", p)
		}
		for _, q := range spoiled(p) {
			if impl.SamePosition(p, q) || impl.SamePosition(q, p) {
				t.Errorf("%+v and %+v are the same", p, q)
			}
		}
	}
	empty := impl.Position{Pits: []int64{}, Stores: []int64{}}
	if !impl.SamePosition(empty, impl.Position{}) || !impl.SamePosition(impl.Position{}, empty) {
		t.Error("lists that are nil and lists that are empty differ")
	}
}

func TestStartPosition(t *testing.T) {
	eachRules(func(r impl.Rules) {
		p, code := impl.StartPosition(r)
		want := positionOf(0, []int64{0, 0}, slices.Repeat([]int64{r.Seeds}, int(2*r.Pits))...)
		if !sameNumbers(p, want) || code != impl.OK || !impl.ValidPosition(r, p) || !impl.IsWhole(r, p) {
			t.Fatalf("StartPosition(%+v) = %+v, %d", r, p, code)
		}
	})
	for _, r := range invalidRules() {
		if p, code := impl.StartPosition(r); !isZeroPosition(p) || code != impl.ErrInvalid {
			t.Errorf("StartPosition(%+v) = %+v, %d", r, p, code)
		}
	}
}

// turned moves each number by half of the board.
func turned(p impl.Position) impl.Position {
	q := clonePosition(p)
	for i, n := range p.Pits {
		q.Pits[(i+len(p.Pits)/2)%len(p.Pits)] = n
	}
	slices.Reverse(q.Stores)
	q.Player = int64(1) - p.Player
	return q
}

func TestTurnPositionAndViewOf(t *testing.T) {
	for _, r := range boards() {
		for _, p := range validPositions(r) {
			want := turned(p)
			once, code := impl.TurnPosition(r, p)
			if !sameNumbers(once, want) || code != impl.OK {
				t.Errorf("%+v: TurnPosition(%+v) = %+v, %d", r, p, once, code)
			}
			twice, code := impl.TurnPosition(r, once)
			if !impl.SamePosition(twice, p) || code != impl.OK {
				t.Errorf("%+v: %+v turned twice is %+v, %d", r, p, twice, code)
			}
			mine, code := impl.ViewOf(r, p)
			if p.Player == 0 {
				want = p
			}
			if !sameNumbers(mine, want) || mine.Player != 0 || code != impl.OK {
				t.Errorf("%+v: ViewOf(%+v) = %+v, %d", r, p, mine, code)
			}
		}
	}
}

// TestViewsOfBothPlayers gives the same board to either player.
func TestViewsOfBothPlayers(t *testing.T) {
	r := standardTable()["mini"]
	p := positionOf(1, []int64{4, 2}, 1, 0, 2, 0, 3, 0)
	cases := []struct {
		player int64
		want   impl.Position
	}{
		{0, positionOf(0, []int64{4, 2}, 1, 0, 2, 0, 3, 0)},
		{1, positionOf(0, []int64{2, 4}, 0, 3, 0, 1, 0, 2)},
	}
	for _, c := range cases {
		p.Player = c.player
		if got, code := impl.ViewOf(r, p); !sameNumbers(got, c.want) || code != impl.OK {
			t.Errorf("player %d sees %+v, %d", c.player, got, code)
		}
		again, _ := impl.TurnPosition(r, p)
		if got, code := impl.ViewOf(r, again); !sameNumbers(got, c.want) || code != impl.OK {
			t.Errorf("player %d sees %+v, %d on the turned board", c.player, got, code)
		}
	}
}

func TestSeedsOfPositions(t *testing.T) {
	for _, r := range boards() {
		for _, p := range validPositions(r) {
			all, code := impl.SeedsOn(r, p)
			if want := bigSum(p.Pits).Int64(); all != want || code != impl.OK {
				t.Errorf("%+v: SeedsOn(%+v) = %d, %d, want %d", r, p, all, code, want)
			}
			for player, side := range [][]int64{p.Pits[:r.Pits], p.Pits[r.Pits:]} {
				n, code := impl.SideSeeds(r, p, int64(player))
				if want := bigSum(side).Int64(); n != want || code != impl.OK {
					t.Errorf("%+v: SideSeeds(%+v, %d) = %d, %d, want %d", r, p, player, n, code, want)
				}
			}
			for _, player := range append([]int64{2, 3}, extremes...) {
				if n, code := impl.SideSeeds(r, p, player); n != 0 || code != impl.ErrRange {
					t.Errorf("%+v: SideSeeds(%+v, %d) = %d, %d", r, p, player, n, code)
				}
			}
		}
	}
}

func TestIsWhole(t *testing.T) {
	for _, r := range boards() {
		for _, p := range validPositions(r) {
			want := bigSum(numbersOf(p)).Int64() == 2*r.Pits*r.Seeds
			if got := impl.IsWhole(r, p); got != want {
				t.Errorf("%+v: IsWhole(%+v) = %v", r, p, got)
			}
		}
		random := rand.New(rand.NewSource(7))
		total := 2 * r.Pits * r.Seeds
		for seeds := max(0, total-2); seeds <= min(96, total+2); seeds++ {
			if p := somePosition(random, r, seeds); impl.IsWhole(r, p) != (seeds == total) {
				t.Errorf("%+v: IsWhole(%+v) is wrong", r, p)
			}
		}
	}
}

// invalidPairs calls do with rules and positions one of which is not valid.
func invalidPairs(do func(r impl.Rules, p impl.Position)) {
	for _, r := range boards() {
		for _, p := range invalidPositions(r) {
			do(r, p)
		}
		for _, other := range boards() {
			if other.Pits != r.Pits {
				do(r, validPositions(other)[4])
			}
		}
	}
	for _, r := range invalidRules() {
		for _, other := range boards() {
			do(r, validPositions(other)[5])
		}
		do(r, impl.Position{})
	}
}

func TestInvalidPositions(t *testing.T) {
	invalidPairs(func(r impl.Rules, p impl.Position) {
		if q, code := impl.TurnPosition(r, p); !isZeroPosition(q) || code != impl.ErrInvalid {
			t.Errorf("%+v: TurnPosition(%+v) = %+v, %d", r, p, q, code)
		}
		if q, code := impl.ViewOf(r, p); !isZeroPosition(q) || code != impl.ErrInvalid {
			t.Errorf("%+v: ViewOf(%+v) = %+v, %d", r, p, q, code)
		}
		if n, code := impl.SeedsOn(r, p); n != 0 || code != impl.ErrInvalid {
			t.Errorf("%+v: SeedsOn(%+v) = %d, %d", r, p, n, code)
		}
		for _, player := range append([]int64{0, 1, 2}, extremes...) {
			if n, code := impl.SideSeeds(r, p, player); n != 0 || code != impl.ErrInvalid {
				t.Errorf("%+v: SideSeeds(%+v, %d) = %d, %d", r, p, player, n, code)
			}
		}
		if impl.IsWhole(r, p) {
			t.Errorf("%+v: IsWhole(%+v) is true", r, p)
		}
		if s := impl.PositionText(r, p); s != "" {
			t.Errorf("%+v: PositionText(%+v) = %q", r, p, s)
		}
	})
}

// orderedPositions has positions in strictly increasing order.
func orderedPositions() []impl.Position {
	return []impl.Position{
		positionOf(math.MinInt64, nil),
		positionOf(-1, nil),
		positionOf(0, nil),
		positionOf(1, nil),
		positionOf(math.MaxInt64, nil),
		positionOf(0, []int64{math.MinInt64}),
		positionOf(0, []int64{0}),
		positionOf(-5, []int64{0, 0}),
		positionOf(0, []int64{0, 0}),
		positionOf(0, []int64{math.MaxInt64}),
		positionOf(9, []int64{9, 9}, math.MinInt64),
		positionOf(9, []int64{9, 9}, math.MinInt64, 5),
		positionOf(9, []int64{9, 9}, -1),
		positionOf(1, nil, 0),
		positionOf(1, []int64{-1}, 0),
		positionOf(0, []int64{4, 2}, 0),
		positionOf(1, []int64{4, 2}, 0),
		positionOf(0, []int64{4, 2, 0}, 0),
		positionOf(0, []int64{4, 3}, 0),
		positionOf(0, []int64{5}, 0),
		positionOf(math.MinInt64, nil, 0, 0),
		positionOf(0, nil, 0, 0, 7),
		positionOf(0, nil, 0, 1),
		positionOf(0, nil, 0, 10),
		positionOf(0, []int64{0, 0}, 1, 0, 2, 0, 3, 0),
		positionOf(0, []int64{4, 2}, 1, 0, 2, 0, 3, 0),
		positionOf(1, []int64{4, 2}, 1, 0, 2, 0, 3, 0),
		positionOf(0, []int64{0, 0}, 2, 2, 2, 2, 2, 2),
		positionOf(0, nil, math.MaxInt64-1, math.MaxInt64),
		positionOf(math.MinInt64, nil, math.MaxInt64),
		positionOf(0, nil, math.MaxInt64),
		positionOf(0, nil, math.MaxInt64, math.MinInt64),
	}
}

func TestComparePositions(t *testing.T) {
	list := orderedPositions()
	for i, a := range list {
		for j, b := range list {
			want := int64(0)
			if i < j {
				want = -1
			} else if i > j {
				want = 1
			}
			if got := impl.ComparePositions(clonePosition(a), b); got != want {
				t.Errorf("ComparePositions(%+v, %+v) = %d, want %d", a, b, got, want)
			}
			if impl.SamePosition(a, b) != (i == j) {
				t.Errorf("SamePosition(%+v, %+v) is wrong", a, b)
			}
		}
	}
	empty := impl.Position{Pits: []int64{}, Stores: []int64{}}
	if impl.ComparePositions(empty, impl.Position{}) != 0 || impl.ComparePositions(impl.Position{}, empty) != 0 {
		t.Error("lists that are nil and lists that are empty are in an order")
	}
}

// textOfPosition writes what the chapter says of the text of a position.
func textOfPosition(p impl.Position) string {
	join := func(list []int64) string {
		words := make([]string, len(list))
		for i, n := range list {
			words[i] = strconv.FormatInt(n, 10)
		}
		return strings.Join(words, ",")
	}
	half := len(p.Pits) / 2
	return fmt.Sprintf("%d %s/%s %s", p.Player, join(p.Pits[:half]), join(p.Pits[half:]), join(p.Stores))
}

func TestPositionTextAndReadPosition(t *testing.T) {
	for _, r := range boards() {
		for _, p := range validPositions(r) {
			want := textOfPosition(p)
			if got := impl.PositionText(r, p); got != want {
				t.Errorf("%+v: PositionText(%+v) = %q, want %q", r, p, got, want)
			}
			if got, ok := impl.ReadPosition(r, want); !sameNumbers(got, p) || !ok {
				t.Errorf("%+v: ReadPosition(%q) = %+v, %v", r, want, got, ok)
			}
		}
		for _, p := range invalidPositions(r) {
			checkNoPosition(t, r, textOfPosition(p))
		}
	}
}

// checkNoPosition checks that no position that is valid for r has the text s.
func checkNoPosition(t *testing.T, r impl.Rules, s string) {
	t.Helper()
	if got, ok := impl.ReadPosition(r, s); !isZeroPosition(got) || ok {
		t.Errorf("%+v: ReadPosition(%q) = %+v, %v", r, s, got, ok)
	}
}

func TestExamplesOfPositions(t *testing.T) {
	r := standardTable()["mini"]
	p, _ := impl.StartPosition(r)
	const text = "0 2,2,2/2,2,2 0,0"
	if got := impl.PositionText(r, p); got != text {
		t.Errorf("the text of the first position of mini is %q", got)
	}
	if got, ok := impl.ReadPosition(r, text); !impl.SamePosition(got, p) || !ok {
		t.Errorf("the first position of mini is read as %+v, %v", got, ok)
	}
}

func TestReadPositionOfOtherTexts(t *testing.T) {
	r := standardTable()["mini"]
	texts := []string{
		"", " ", "0", "0 ", "0  ", "0 / ", "/", ",", " / ,", "0 2,2,2/2,2,2", "0 2,2,2/2,2,2 ", "0 2,2,2/2,2,2 0", "0 2,2,2/2,2,2 0,",
		"2,2,2/2,2,2 0,0", " 2,2,2/2,2,2 0,0", "0 2,2/2,2 0,0", "0 2,2,2,2/2,2,2,2 0,0", "0 2,2,2,2/2,2 0,0", "0 2,2/2,2,2,2 0,0",
		"0 2,2,2/2,2,2,2 0,0", "0 2,2,2/2,2 0,0", "0 2,2,2/2,2,2 0,0,0", "0 2,2,2/2,2,2,0 0", "0 2,2,2/2,2,2,0,0", "0,2,2,2/2,2,2 0,0",
		"0 2,2,2,2,2,2 0,0", "0 2,2,2 2,2,2 0,0", "0 2,2,2/2,2,2/0,0", "0/2,2,2/2,2,2 0,0", "0 2/2/2/2/2/2 0,0", "0 2 2 2 2 2 2 0 0",
		"0 2,2,2/2,2,2 0/0", "0 2,2,2/2,2,2 0 0", "0 2,2,2//2,2,2 0,0", "0  2,2,2/2,2,2 0,0", "0 2,,2,2/2,2,2 0,0", "0 2,2,2/2,2,2  0,0",
		"0 ,2,2,2/2,2,2 0,0", "0 2,2,2,/2,2,2 0,0", "0 2,2,2/,2,2,2 0,0", "0 2,2,2/2,2,2, 0,0", "0 2,2,2/2,2,2 ,0,0", "0 2,2,2/2,2,2 0,0,",
		" 0 2,2,2/2,2,2 0,0", "0 2,2,2/2,2,2 0,0 ", "0 2, 2,2/2,2,2 0,0", "0 2,2,2 / 2,2,2 0,0", "0\t2,2,2/2,2,2 0,0", "0 2,2,2/2,2,2 0,0\n",
		"00 2,2,2/2,2,2 0,0", "+0 2,2,2/2,2,2 0,0", "-0 2,2,2/2,2,2 0,0", "2 2,2,2/2,2,2 0,0", "-1 2,2,2/2,2,2 0,0", "x 2,2,2/2,2,2 0,0",
		"0 02,2,2/2,2,2 0,0", "0 +2,2,2/2,2,2 0,0", "0 -2,2,2/2,2,2 0,0", "0 2,2,2/2,2,2 00,0", "0 2,2,2/2,2,2 0,-0", "0 2,2,2/2,2,2 0,+0",
		"0 2,2,2/2,2,2 0,0x0", "0 2,2,2/2,2,2 0,0.0", "0 2,2,1e0/2,2,2 0,0", "0 2,2,0x2/2,2,2 0,0", "0 2,2,2_0/2,2,2 0,0",
		"0 2,2,\u0662/2,2,2 0,0", "0 2,2,\uff12/2,2,2 0,0", "0 2,2,2\xff/2,2,2 0,0", "\xff0 2,2,2/2,2,2 0,0", "0 2,2,2/2,2,2 0,0\xff",
		"0 2,2,2/2,2,2 0,0\x00", "0\xa02,2,2/2,2,2 0,0", "0\u00a02,2,2/2,2,2 0,0", "0 2,2,2\u22152,2,2 0,0", "0 2,2,2/2,2,2 0\uff0c0", "\xff", "\xc3\x28",
		"0 97,0,0/0,0,0 0,0", "0 96,0,0/0,0,1 0,0", "0 96,0,0/0,0,0 0,1", "0 9223372036854775807,9223372036854775807,2/0,0,0 0,0",
		"0 999999999999999999,0,0/0,0,0 0,0", "0 18446744073709551616,0,0/0,0,0 0,0", "18446744073709551616 2,2,2/2,2,2 0,0",
		"4294967296 2,2,2/2,2,2 0,0", "256 2,2,2/2,2,2 0,0", "0 2,2,2/2,2,2 4294967296,0", "0 2,2,2/2,2,2 0," + strings.Repeat("0", 1000),
		strings.Repeat("0,", 10000), strings.Repeat(" ", 10000), "0 2,2,2/2,2,2 0,0" + strings.Repeat(" ", 1000),
	}
	for _, s := range texts {
		checkNoPosition(t, r, s)
	}
	const good = "0 2,2,2/2,2,2 0,0"
	for i := range good {
		checkNoPosition(t, r, good[:i])
	}
	for _, r := range invalidRules() {
		for _, s := range append(texts, good, "0 / 0,0", "0  0,0", "0 0/0 0,0") {
			checkNoPosition(t, r, s)
		}
	}
}

// readable tells, in its own way, whether a position that is valid for r has the text s.
func readable(r impl.Rules, s string) bool {
	side := fmt.Sprintf(`(?:(?:0|[1-9][0-9]*),){%d}(?:0|[1-9][0-9]*)`, r.Pits-1)
	form := regexp.MustCompile(`\A[01] ` + side + `/` + side + ` (?:0|[1-9][0-9]*),(?:0|[1-9][0-9]*)\z`)
	if !form.MatchString(s) {
		return false
	}
	sum := new(big.Int)
	for _, digits := range regexp.MustCompile(`[0-9]+`).FindAllString(s[1:], -1) {
		n, _ := new(big.Int).SetString(digits, 10)
		sum.Add(sum, n)
	}
	return sum.Cmp(big.NewInt(96)) <= 0
}

// TestReadPositionOfChangedTexts puts each of some bytes in front of and in place of each byte of a text, and leaves each one out.
func TestReadPositionOfChangedTexts(t *testing.T) {
	pieces := []string{"", "0", "1", "2", "9", ",", "/", " ", "-", "+", ".", "x", "\t", "\n", "\x00", "\xff", "\u0660"}
	for _, name := range []string{"mini", "relay"} {
		r := standardTable()[name]
		for _, p := range validPositions(r) {
			good := textOfPosition(p)
			for i := range len(good) + 1 {
				for _, piece := range pieces {
					checkChangedText(t, r, good[:i]+piece+good[i:])
					if i < len(good) {
						checkChangedText(t, r, good[:i]+piece+good[i+1:])
					}
				}
			}
		}
	}
}

func checkChangedText(t *testing.T, r impl.Rules, s string) {
	t.Helper()
	want := readable(r, s)
	p, ok := impl.ReadPosition(r, s)
	if ok != want {
		t.Errorf("%+v: ReadPosition(%q) = %+v, %v", r, s, p, ok)
	}
	if ok && textOfPosition(p) != s || !ok && !isZeroPosition(p) {
		t.Errorf("%+v: ReadPosition(%q) = %+v, %v", r, s, p, ok)
	}
}

// TestAllPositionsOfASmallBoard turns, sees, writes and reads each position with few seeds.
func TestAllPositionsOfASmallBoard(t *testing.T) {
	r := impl.Rules{Pits: 2, Seeds: 1}
	number := 0
	var fill func(list []int64, left int64)
	fill = func(list []int64, left int64) {
		if len(list) < 6 {
			for n := range left + 1 {
				fill(append(list, n), left-n)
			}
			return
		}
		for player := range int64(2) {
			number++
			p := clonePosition(positionOf(player, list[4:6], list[:4]...))
			once, _ := impl.TurnPosition(r, p)
			twice, code := impl.TurnPosition(r, once)
			read, ok := impl.ReadPosition(r, impl.PositionText(r, p))
			if !sameNumbers(once, turned(p)) || !sameNumbers(twice, p) || code != impl.OK || !sameNumbers(read, p) || !ok {
				t.Fatalf("%+v: turned %+v, twice %+v, read %+v, %v", p, once, twice, read, ok)
			}
		}
	}
	fill(make([]int64, 0, 6), 6)
	if number != 2*924 {
		t.Errorf("%d positions were tried", number)
	}
}

// spacious returns p with marks in the unused capacity of its lists, and a function that tells whether all is as it was.
func spacious(p impl.Position) (impl.Position, func() bool) {
	const room = 4
	extend := func(list []int64) []int64 {
		return append(slices.Clone(list), slices.Repeat([]int64{-77}, room)...)
	}
	pits, stores := extend(p.Pits), extend(p.Stores)
	oldPits, oldStores := slices.Clone(pits), slices.Clone(stores)
	q := impl.Position{Pits: pits[:len(p.Pits)], Stores: stores[:len(p.Stores)], Player: p.Player}
	return q, func() bool { return slices.Equal(pits, oldPits) && slices.Equal(stores, oldStores) }
}

// ruin overwrites a result with its unused capacity.
func ruin(p impl.Position) {
	for _, list := range [][]int64{p.Pits, p.Stores} {
		list = list[:cap(list)]
		for i := range list {
			list[i] = -99
		}
	}
}

func TestPositionsLeaveTheirArguments(t *testing.T) {
	for _, r := range boards() {
		for _, p := range append(validPositions(r), invalidPositions(r)...) {
			q, unchanged := spacious(p)
			resultsOfPositions(r, q, q, impl.PositionText(r, q), 1)
			if !unchanged() {
				t.Fatalf("%+v: %+v was changed", r, p)
			}
		}
	}
}

func TestPositionsAreNewMemory(t *testing.T) {
	for _, r := range boards() {
		for _, p := range validPositions(r) {
			q, unchanged := spacious(p)
			makers := map[string]func() impl.Position{
				"StartPosition": func() impl.Position { s, _ := impl.StartPosition(r); return s },
				"TurnPosition":  func() impl.Position { s, _ := impl.TurnPosition(r, q); return s },
				"ViewOf":        func() impl.Position { s, _ := impl.ViewOf(r, q); return s },
				"ReadPosition":  func() impl.Position { s, _ := impl.ReadPosition(r, textOfPosition(q)); return s },
			}
			for name, do := range makers {
				first, second := do(), do()
				want := clonePosition(second)
				ruin(first)
				if !unchanged() || !sameNumbers(second, want) || !sameNumbers(do(), want) {
					t.Fatalf("%s of %+v shares memory", name, p)
				}
				pits := second.Pits
				stores := slices.Clone(second.Stores)
				pits = pits[:cap(pits)]
				for i := range pits {
					pits[i] = -99
				}
				if !slices.Equal(second.Stores, stores) {
					t.Fatalf("%s of %+v has pits and stores in the same memory", name, p)
				}
			}
		}
	}
}
