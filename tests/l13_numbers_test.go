package tests

import (
	"math"
	"math/big"
	"math/rand"
	"slices"
	"testing"

	"loop.example/g00926/impl"
)

func TestMaxNumbers(t *testing.T) {
	if impl.MaxNumbers != 1000000000 {
		t.Errorf("MaxNumbers is %d", impl.MaxNumbers)
	}
}

// mostSeeds has the greatest numbers of seeds for which positions have numbers, by the number of pits of a player.
var mostSeeds = map[int64]int64{2: 96, 3: 91, 4: 45, 5: 30, 6: 23, 7: 19, 8: 16}

// expectFirst adds up the distributions of fewer seeds in the pits of both players; seeds is not negative.
func expectFirst(r impl.Rules, seeds int64) *big.Int {
	sum := new(big.Int)
	for fewer := range seeds {
		sum.Add(sum, triangle[fewer+2*r.Pits-1][2*r.Pits-1])
	}
	return sum
}

// expectSeeds is the error of functions for rules and seeds.
func expectSeeds(r impl.Rules, seeds int64) int64 {
	switch {
	case !impl.ValidRules(r):
		return impl.ErrInvalid
	case seeds < 0 || seeds > 96 || expectFirst(r, seeds+1).Cmp(big.NewInt(1e9)) > 0:
		return impl.ErrRange
	}
	return impl.OK
}

// expectNumbers has the number of positions with some seeds and the index of the first one, or the error.
func expectNumbers(r impl.Rules, seeds int64) (int64, int64, int64) {
	if code := expectSeeds(r, seeds); code != impl.OK {
		return 0, 0, code
	}
	return triangle[seeds+2*r.Pits-1][2*r.Pits-1].Int64(), expectFirst(r, seeds).Int64(), impl.OK
}

func checkNumbers(t *testing.T, r impl.Rules, seeds, wantCount, wantFirst, code int64) {
	t.Helper()
	count, one := impl.CountPositions(r, seeds)
	first, two := impl.FirstIndex(r, seeds)
	if count != wantCount || first != wantFirst || one != code || two != code {
		t.Errorf("%+v, %d seeds: CountPositions returns %d, %d, FirstIndex %d, %d, want %d, %d, code %d", r, seeds, count, one, first, two, wantCount, wantFirst, code)
	}
}

// TestCountsAndFirstIndices has all numbers of seeds, and others.
func TestCountsAndFirstIndices(t *testing.T) {
	for _, r := range append(boards(), invalidRules()...) {
		for _, seeds := range numbersOfPlaces() {
			count, first, code := expectNumbers(r, seeds)
			checkNumbers(t, r, seeds, count, first, code)
		}
	}
}

// TestNumbersDependOnPitsOnly has all rules: their other fields do not matter.
func TestNumbersDependOnPitsOnly(t *testing.T) {
	want := map[[2]int64][3]int64{}
	eachRules(func(r impl.Rules) {
		for _, seeds := range []int64{-1, 0, 1, 2, 12, mostSeeds[r.Pits], mostSeeds[r.Pits] + 1} {
			key := [2]int64{r.Pits, seeds}
			if _, ok := want[key]; !ok {
				count, first, code := expectNumbers(r, seeds)
				want[key] = [3]int64{count, first, code}
			}
			checkNumbers(t, r, seeds, want[key][0], want[key][1], want[key][2])
		}
		pits := make([]int64, 2*r.Pits)
		pits[r.Pits-1] = 1
		checkNumbered(t, r, positionOf(0, []int64{0, 0}, pits...), r.Pits, r.Pits+1)
		checkAtIndex(t, r, r.Pits+1, pits, impl.OK)
	})
}

func TestNumbersByHand(t *testing.T) {
	for _, c := range [][5]int64{
		{2, 0, 1, 0, impl.OK}, {2, 1, 4, 1, impl.OK}, {2, 2, 10, 5, impl.OK}, {2, 3, 20, 15, impl.OK}, {2, 95, 152096, 3612280, impl.OK},
		{2, 96, 156849, 3764376, impl.OK}, {2, 97, 0, 0, impl.ErrRange}, {2, 98, 0, 0, impl.ErrRange},
		{3, 0, 1, 0, impl.OK}, {3, 1, 6, 1, impl.OK}, {3, 2, 21, 7, impl.OK}, {3, 3, 56, 28, impl.OK}, {3, 12, 6188, 12376, impl.OK},
		{3, 91, 61124064, 927048304, impl.OK}, {3, 92, 0, 0, impl.ErrRange}, {3, 96, 0, 0, impl.ErrRange}, {3, 97, 0, 0, impl.ErrRange},
		{4, 45, 133784560, 752538150, impl.OK}, {4, 46, 0, 0, impl.ErrRange}, {5, 30, 211915132, 635745396, impl.OK}, {5, 31, 0, 0, impl.ErrRange},
		{6, 0, 1, 0, impl.OK}, {6, 1, 12, 1, impl.OK}, {6, 2, 78, 13, impl.OK},
		{6, 23, 286097760, 548354040, impl.OK}, {6, 24, 0, 0, impl.ErrRange}, {6, 48, 0, 0, impl.ErrRange},
		{7, 19, 347373600, 471435600, impl.OK}, {7, 20, 0, 0, impl.ErrRange},
		{8, 0, 1, 0, impl.OK}, {8, 1, 16, 1, impl.OK}, {8, 2, 136, 17, impl.OK}, {8, 16, 300540195, 300540195, impl.OK}, {8, 17, 0, 0, impl.ErrRange}, {8, 96, 0, 0, impl.ErrRange},
		// More than MaxRank distributions are ErrRange too.
		{8, 56, 0, 0, impl.ErrRange}, {8, 57, 0, 0, impl.ErrRange}, {7, 74, 0, 0, impl.ErrRange},
		{2, -1, 0, 0, impl.ErrRange}, {8, -1, 0, 0, impl.ErrRange}, {2, math.MinInt64, 0, 0, impl.ErrRange}, {8, math.MaxInt64, 0, 0, impl.ErrRange},
	} {
		checkNumbers(t, impl.Rules{Pits: c[0], Seeds: 1}, c[1], c[2], c[3], c[4])
	}
}

// TestSeedsNearMaxNumbers has the greatest number of seeds for which the greatest index is not too great, and one more.
func TestSeedsNearMaxNumbers(t *testing.T) {
	for pits, most := range mostSeeds {
		r := impl.Rules{Pits: pits, Seeds: 1}
		if expectSeeds(r, most) != impl.OK || expectSeeds(r, most+1) != impl.ErrRange {
			t.Fatalf("%d pits: the greatest number of seeds is not %d", pits, most)
		}
		count, first, _ := expectNumbers(r, most)
		checkNumbers(t, r, most, count, first, impl.OK)
		checkNumbers(t, r, most+1, 0, 0, impl.ErrRange)
		firstPits, lastPits := endsOf(most, 2*pits)
		checkAtIndex(t, r, first-1, lastOf(most-1, 2*pits), impl.OK)
		checkAtIndex(t, r, first, firstPits, impl.OK)
		checkAtIndex(t, r, first+count-1, lastPits, impl.OK)
		// These are not too great, but those of as many seeds could be.
		for _, index := range []int64{first + count, first + count + 1, 999999999, 1000000000, 1000000001, 2*first + count, math.MaxInt64} {
			checkAtIndex(t, r, index, nil, impl.ErrRange)
		}
		checkPositionAt(t, r, most, count-1, lastPits, impl.OK)
		checkPositionAt(t, r, most, count, nil, impl.ErrRange)
		checkPositionAt(t, r, most+1, 0, nil, impl.ErrRange)
		checkPositionAt(t, r, most+1, 1, nil, impl.ErrRange)
		if most < 96 {
			beyond, end := endsOf(most+1, 2*pits)
			checkNoNumber(t, r, positionOf(0, []int64{0, 0}, beyond...), impl.ErrRange)
			checkNoNumber(t, r, positionOf(1, []int64{0, 0}, end...), impl.ErrRange)
			// One seed less in pits, and one more in a store.
			beyond[len(beyond)-1]--
			checkNumbered(t, r, positionOf(0, []int64{0, 1}, beyond...), 0, first)
		}
	}
}

func lastOf(seeds, pits int64) []int64 {
	_, last := endsOf(seeds, pits)
	return last
}

// seen has the pits as the player to move sees them.
func seen(p impl.Position) []int64 {
	if p.Player == 1 {
		return turned(p).Pits
	}
	return p.Pits
}

// checkNumbered checks what the functions return for a valid position with a number, and that it is restored, up to stores and sides.
func checkNumbered(t *testing.T, r impl.Rules, p impl.Position, number, index int64) {
	t.Helper()
	got, one := impl.NumberOf(r, p)
	at, two := impl.IndexOf(r, p)
	if got != number || at != index || one != impl.OK || two != impl.OK {
		t.Errorf("%+v, %+v: NumberOf returns %d, %d, IndexOf %d, %d, want %d and %d", r, p, got, one, at, two, number, index)
	}
	checkPositionAt(t, r, bigSum(p.Pits).Int64(), got, seen(p), impl.OK)
	checkAtIndex(t, r, at, seen(p), impl.OK)
	checkSameNumber(t, r, p, turned(p), true)
	checkSameNumber(t, r, p, positionOf(0, []int64{0, 0}, seen(p)...), true)
}

// checkNoNumber checks what the functions return for a position without a number.
func checkNoNumber(t *testing.T, r impl.Rules, p impl.Position, code int64) {
	t.Helper()
	number, one := impl.NumberOf(r, p)
	index, two := impl.IndexOf(r, p)
	if number != 0 || index != 0 || one != code || two != code {
		t.Errorf("%+v, %+v: NumberOf returns %d, %d, IndexOf %d, %d, want the code %d", r, p, number, one, index, two, code)
	}
	checkSameNumber(t, r, p, p, false)
}

// checkSameNumber checks the positions in both orders.
func checkSameNumber(t *testing.T, r impl.Rules, a, b impl.Position, want bool) {
	t.Helper()
	if impl.SameNumber(r, a, b) != want || impl.SameNumber(r, b, a) != want {
		t.Errorf("%+v: SameNumber of %+v and %+v is %v, and %v in the other order", r, a, b, impl.SameNumber(r, a, b), impl.SameNumber(r, b, a))
	}
}

// checkPosition checks a result that is the position with these pits, empty stores and player 0 to move, or an error.
func checkPosition(t *testing.T, what string, r impl.Rules, number int64, got impl.Position, code int64, pits []int64, want int64) {
	t.Helper()
	right := isZeroPosition(got)
	if want == impl.OK {
		right = sameNumbers(got, positionOf(0, []int64{0, 0}, pits...))
	}
	if !right || code != want {
		t.Errorf("%+v: %s of %d is %+v, %d, want %v, %d", r, what, number, got, code, pits, want)
	}
}

func checkPositionAt(t *testing.T, r impl.Rules, seeds, number int64, pits []int64, want int64) {
	t.Helper()
	got, code := impl.PositionAt(r, seeds, number)
	checkPosition(t, "PositionAt with "+impl.Decimal(seeds)+" seeds", r, number, got, code, pits, want)
}

func checkAtIndex(t *testing.T, r impl.Rules, index int64, pits []int64, want int64) {
	t.Helper()
	got, code := impl.AtIndex(r, index)
	checkPosition(t, "AtIndex", r, index, got, code, pits, want)
}

// TestAllPositionsOfSomeSeeds is promise 13 for each position with few seeds, seen by both players, with seeds in the stores and without.
func TestAllPositionsOfSomeSeeds(t *testing.T) {
	most := map[int64]int64{2: 12, 3: 8, 4: 6, 5: 5, 6: 4, 7: 4, 8: 3}
	for pits := int64(2); pits <= 8; pits++ {
		r := impl.Rules{Pits: pits, Seeds: 1, Stores: pits%3 == 0}
		index := int64(0)
		for seeds := range most[pits] + 1 {
			count, first, _ := expectNumbers(r, seeds)
			checkNumbers(t, r, seeds, count, index, impl.OK)
			number := int64(0)
			eachDistribution(seeds, 2*pits, func(list []int64) {
				checkPositionAt(t, r, seeds, number, list, impl.OK)
				checkAtIndex(t, r, index, list, impl.OK)
				for _, stores := range [][]int64{{0, 0}, {index % 5, number % 7}, {0, 96 - seeds}} {
					checkNumbered(t, r, positionOf(0, stores, list...), number, index)
					checkNumbered(t, r, turned(positionOf(0, stores, list...)), number, index)
				}
				number++
				index++
			})
			if number != count || index != first+count {
				t.Fatalf("%d pits, %d seeds: %d positions up to the index %d", pits, seeds, number, index)
			}
			checkPositionAt(t, r, seeds, -1, nil, impl.ErrRange)
			checkPositionAt(t, r, seeds, number, nil, impl.ErrRange)
		}
	}
}

// TestEndsOfAllSeeds has the first and the last position of each number of seeds, and what is beside them.
func TestEndsOfAllSeeds(t *testing.T) {
	for pits := int64(2); pits <= 8; pits++ {
		r := impl.Rules{Pits: pits, Seeds: 6, Skip: true}
		for seeds := range mostSeeds[pits] + 1 {
			count, first, _ := expectNumbers(r, seeds)
			least, last := endsOf(seeds, 2*pits)
			for player := range int64(2) {
				stores := []int64{player * (96 - seeds), 0}
				checkNumbered(t, r, viewed(player, stores, least), 0, first)
				checkNumbered(t, r, viewed(player, stores, last), count-1, first+count-1)
			}
			for _, number := range []int64{-1, count, count + 1, first + count, 1e9, -count} {
				if number != 0 && (number < 0 || number >= count) {
					checkPositionAt(t, r, seeds, number, nil, impl.ErrRange)
				}
			}
			if seeds == 0 {
				checkAtIndex(t, r, -1, nil, impl.ErrRange)
				continue
			}
			checkAtIndex(t, r, first-1, lastOf(seeds-1, 2*pits), impl.OK)
			second := slices.Clone(least)
			second[2*pits-1]--
			second[2*pits-2]++
			checkAtIndex(t, r, first+1, second, impl.OK)
		}
	}
}

// viewed is the position of a player who sees these pits.
func viewed(player int64, stores, pits []int64) impl.Position {
	if player == 0 {
		return positionOf(0, stores, pits...)
	}
	return turned(positionOf(0, []int64{stores[1], stores[0]}, pits...))
}

// TestNumbersOfManyPositions has valid positions with any numbers of seeds: they have a number just if there are not too many positions.
func TestNumbersOfManyPositions(t *testing.T) {
	numbered, others := 0, 0
	for _, r := range append(boards(), someMoveRules()...) {
		for _, p := range slices.Concat(validPositions(r), movePositions(r), nearMostSeeds(r)) {
			seeds := bigSum(p.Pits).Int64()
			if code := expectSeeds(r, seeds); code != impl.OK {
				others++
				checkNoNumber(t, r, p, code)
				checkNoNumber(t, r, turned(p), code)
				continue
			}
			numbered++
			number := expectRank(seen(p))
			checkNumbered(t, r, p, number, expectFirst(r, seeds).Int64()+number)
			checkNumbered(t, r, turned(p), number, expectFirst(r, seeds).Int64()+number)
		}
	}
	if min(numbered, others) < 500 {
		t.Errorf("only %d positions had a number, and %d had none", numbered, others)
	}
}

// nearMostSeeds has positions with about as many seeds in pits as can be numbered, and seeds in stores.
func nearMostSeeds(r impl.Rules) []impl.Position {
	random := rand.New(rand.NewSource(1313 + r.Pits))
	var all []impl.Position
	for seeds := mostSeeds[r.Pits] - 3; seeds <= min(mostSeeds[r.Pits]+3, 96); seeds++ {
		for range 3 {
			stores := someDistribution(random, random.Int63n(97-seeds), 2)
			all = append(all, positionOf(random.Int63n(2), stores, someDistribution(random, seeds, 2*r.Pits)...))
		}
	}
	return all
}

// TestIndicesAtRandom has any indices, and leads back from the position.
func TestIndicesAtRandom(t *testing.T) {
	random := rand.New(rand.NewSource(1314))
	for pits := int64(2); pits <= 8; pits++ {
		r := impl.Rules{Pits: pits, Seeds: 2, Relay: true}
		end := expectFirst(r, mostSeeds[pits]+1).Int64()
		for i := range 3000 {
			index := random.Int63n(end)
			if i%2 == 0 {
				index = random.Int63n(1 + random.Int63n(1+random.Int63n(end)))
			}
			p, code := impl.AtIndex(r, index)
			if code != impl.OK || !mustBeValid(r, p) || p.Player != 0 || !slices.Equal(p.Stores, []int64{0, 0}) {
				t.Fatalf("%d pits: AtIndex of %d is %+v, %d", pits, index, p, code)
			}
			number := expectRank(p.Pits)
			if got := expectFirst(r, bigSum(p.Pits).Int64()).Int64() + number; got != index {
				t.Fatalf("%d pits: AtIndex of %d is %+v, with the index %d", pits, index, p, got)
			}
			checkNumbered(t, r, p, number, index)
		}
		for _, index := range []int64{end, end + 1, end + random.Int63n(1e9), -1, -2, -end, -random.Int63n(1e9) - 1} {
			checkAtIndex(t, r, index, nil, impl.ErrRange)
		}
	}
}

// TestPositionsAtRandom has any numbers of any seeds.
func TestPositionsAtRandom(t *testing.T) {
	random := rand.New(rand.NewSource(1315))
	for pits := int64(2); pits <= 8; pits++ {
		r := impl.Rules{Pits: pits, Seeds: 3, Feed: true}
		for seeds := range mostSeeds[pits] + 1 {
			count, first, _ := expectNumbers(r, seeds)
			for range 20 {
				number := random.Int63n(count)
				p, code := impl.PositionAt(r, seeds, number)
				if code != impl.OK || !mustBeValid(r, p) || bigSum(p.Pits).Int64() != seeds || expectRank(p.Pits) != number {
					t.Fatalf("%d pits, %d seeds: PositionAt of %d is %+v, %d", pits, seeds, number, p, code)
				}
				checkNumbered(t, r, p, number, first+number)
			}
		}
	}
}

func TestPositionsWithoutSeedsInPits(t *testing.T) {
	for _, r := range boards() {
		none := make([]int64, 2*r.Pits)
		checkNumbers(t, r, 0, 1, 0, impl.OK)
		for _, stores := range [][]int64{{0, 0}, {1, 0}, {0, 1}, {5, 3}, {96, 0}, {0, 96}, {48, 48}} {
			for player := range int64(2) {
				p := positionOf(player, stores, none...)
				checkNumbered(t, r, p, 0, 0)
				checkSameNumber(t, r, p, positionOf(1-player, []int64{7, 0}, none...), true)
				checkSameNumber(t, r, p, positionOf(player, stores, append([]int64{1}, none[1:]...)...), false)
			}
		}
		checkNoNumber(t, r, positionOf(0, []int64{97, 0}, none...), impl.ErrInvalid)
		checkNoNumber(t, r, positionOf(1, []int64{49, 48}, none...), impl.ErrInvalid)
		checkPositionAt(t, r, 0, 0, none, impl.OK)
		checkAtIndex(t, r, 0, none, impl.OK)
		for _, n := range []int64{1, 2, -1, math.MaxInt64, math.MinInt64} {
			checkPositionAt(t, r, 0, n, nil, impl.ErrRange)
		}
	}
}

// TestPositionsWithOneSeed has each place of the seed: the first number is that of the last pit.
func TestPositionsWithOneSeed(t *testing.T) {
	for _, r := range boards() {
		size := 2 * r.Pits
		checkNumbers(t, r, 1, size, 1, impl.OK)
		for place := range size {
			pits := make([]int64, size)
			pits[place] = 1
			for player := range int64(2) {
				number := size - 1 - (place+player*r.Pits)%size
				checkNumbered(t, r, positionOf(player, []int64{0, 0}, pits...), number, number+1)
				checkNumbered(t, r, positionOf(player, []int64{90, 5}, pits...), number, number+1)
			}
		}
	}
}

// TestMaxSeedsInPits: only games with the least number of pits have numbers for as many seeds.
func TestMaxSeedsInPits(t *testing.T) {
	least := impl.Rules{Pits: 2, Seeds: 1}
	checkNumbered(t, least, positionOf(0, []int64{0, 0}, 0, 0, 0, 96), 0, 3764376)
	checkNumbered(t, least, positionOf(1, []int64{0, 0}, 0, 96, 0, 0), 0, 3764376)
	checkNumbered(t, least, positionOf(0, []int64{0, 0}, 96, 0, 0, 0), 156848, 3921224)
	checkNumbered(t, least, positionOf(1, []int64{0, 0}, 0, 0, 96, 0), 156848, 3921224)
	checkAtIndex(t, least, 3921225, nil, impl.ErrRange)
	for _, r := range boards() {
		pits := slices.Repeat([]int64{0}, int(2*r.Pits))
		pits[r.Pits] = 96
		if r.Pits > 2 {
			checkNoNumber(t, r, positionOf(0, []int64{0, 0}, pits...), impl.ErrRange)
			checkNoNumber(t, r, positionOf(1, []int64{0, 0}, pits...), impl.ErrRange)
		}
		pits[0] = 1
		checkNoNumber(t, r, positionOf(0, []int64{0, 0}, pits...), impl.ErrInvalid)
		checkNumbers(t, r, 97, 0, 0, impl.ErrRange)
		checkPositionAt(t, r, 97, 0, nil, impl.ErrRange)
	}
}

func TestExamplesOfNumbers(t *testing.T) {
	r := standardTable()["mini"]
	index, code := impl.IndexOf(r, positionOf(0, []int64{0, 0}, 0, 0, 0, 0, 0, 0))
	if index != 0 || code != impl.OK {
		t.Errorf("the index of a position without seeds is %d, %d", index, code)
	}
	count, code := impl.CountPositions(r, 1)
	if count != 6 || code != impl.OK {
		t.Errorf("there are %d positions with one seed, %d", count, code)
	}
}

func TestPositionsOfMiniByHand(t *testing.T) {
	r := standardTable()["mini"]
	for _, c := range []struct {
		text          string
		number, index int64
	}{
		{"0 0,0,0/0,0,0 6,6", 0, 0}, {"1 0,0,0/0,0,0 0,12", 0, 0},
		{"0 0,0,0/0,0,1 0,0", 0, 1}, {"1 0,0,1/0,0,0 0,0", 0, 1}, {"0 0,0,1/0,0,0 0,0", 3, 4}, {"1 0,0,0/0,0,1 5,3", 3, 4}, {"0 1,0,0/0,0,0 0,0", 5, 6}, {"1 0,0,0/1,0,0 9,2", 5, 6},
		{"0 0,0,0/0,0,2 0,0", 0, 7}, {"0 0,0,0/0,1,1 0,0", 1, 8}, {"0 0,0,0/0,2,0 0,0", 2, 9}, {"0 0,0,0/1,0,1 0,0", 3, 10}, {"0 2,0,0/0,0,0 0,10", 20, 27}, {"1 1,0,0/0,0,1 0,0", 8, 15},
		{"0 0,0,0/0,0,3 0,0", 0, 28}, {"0 2,2,2/2,2,2 0,0", 3787, 16163}, {"1 2,2,2/2,2,2 0,0", 3787, 16163},
	} {
		p, ok := impl.ReadPosition(r, c.text)
		if !ok {
			t.Fatalf("%q is no position", c.text)
		}
		checkNumbered(t, r, p, c.number, c.index)
	}
}

func TestSameNumber(t *testing.T) {
	r := standardTable()["mini"]
	few := positionOf(0, []int64{0, 0}, 1, 0, 2, 0, 3, 0)
	for _, c := range []struct {
		a, b impl.Position
		want bool
	}{
		{few, few, true},
		{few, turned(few), true},
		{turned(few), turned(few), true},
		// Equal pits and other stores.
		{few, positionOf(0, []int64{5, 3}, 1, 0, 2, 0, 3, 0), true},
		{few, positionOf(1, []int64{5, 3}, 0, 3, 0, 1, 0, 2), true},
		{positionOf(0, []int64{90, 0}, 1, 0, 2, 0, 3, 0), positionOf(0, []int64{0, 90}, 1, 0, 2, 0, 3, 0), true},
		// Equal pits and the other player.
		{few, positionOf(1, []int64{0, 0}, 1, 0, 2, 0, 3, 0), false},
		// Turned pits and the same player.
		{few, positionOf(0, []int64{0, 0}, 0, 3, 0, 1, 0, 2), false},
		// As many seeds and other pits.
		{few, positionOf(0, []int64{0, 0}, 1, 0, 2, 0, 2, 1), false},
		{few, positionOf(0, []int64{0, 0}, 6, 0, 0, 0, 0, 0), false},
		// A position that looks alike for both players.
		{positionOf(0, []int64{1, 2}, 1, 2, 3, 1, 2, 3), positionOf(1, []int64{1, 2}, 1, 2, 3, 1, 2, 3), true},
		// Other seeds and the same number: the first one, and the number 3.
		{positionOf(0, []int64{0, 0}, 0, 0, 0, 0, 0, 1), positionOf(0, []int64{0, 0}, 0, 0, 0, 0, 0, 2), false},
		{positionOf(0, []int64{0, 0}, 0, 0, 0, 0, 0, 0), positionOf(0, []int64{0, 0}, 0, 0, 0, 0, 0, 1), false},
		{positionOf(0, []int64{0, 0}, 0, 0, 1, 0, 0, 0), positionOf(0, []int64{0, 0}, 0, 0, 0, 1, 0, 1), false},
		// As many seeds in all, but not in the pits.
		{positionOf(0, []int64{1, 0}, 0, 0, 0, 0, 0, 1), positionOf(0, []int64{0, 0}, 0, 0, 0, 0, 0, 2), false},
		// There is no number for 92 seeds.
		{positionOf(0, []int64{0, 0}, 92, 0, 0, 0, 0, 0), positionOf(0, []int64{0, 0}, 92, 0, 0, 0, 0, 0), false},
		{positionOf(0, []int64{0, 0}, 0, 0, 0, 0, 0, 92), positionOf(0, []int64{0, 0}, 0, 0, 0, 0, 0, 91), false},
		{positionOf(0, []int64{0, 0}, 0, 0, 0, 0, 0, 92), positionOf(0, []int64{0, 0}, 0, 0, 0, 0, 0, 96), false},
		{positionOf(0, []int64{0, 0}, 0, 0, 0, 0, 0, 92), positionOf(0, []int64{0, 0}, 0, 0, 0, 0, 0, 0), false},
		{positionOf(0, []int64{1, 0}, 0, 0, 0, 0, 0, 91), positionOf(1, []int64{0, 0}, 0, 0, 91, 0, 0, 0), true},
		// Not valid: equal numbers would not matter.
		{impl.Position{}, impl.Position{}, false},
		{few, impl.Position{}, false},
		{positionOf(2, []int64{0, 0}, 1, 0, 2, 0, 3, 0), positionOf(2, []int64{0, 0}, 1, 0, 2, 0, 3, 0), false},
		{few, positionOf(2, []int64{0, 0}, 1, 0, 2, 0, 3, 0), false},
		{few, positionOf(0, []int64{0}, 1, 0, 2, 0, 3, 0), false},
		{few, positionOf(0, []int64{0, 0}, 1, 0, 2, 0, 3, 0, 0), false},
		{few, positionOf(0, []int64{0, -1}, 1, 0, 2, 0, 3, 0), false},
		{few, positionOf(0, []int64{91, 0}, 1, 0, 2, 0, 3, 0), false},
		{positionOf(0, []int64{0, 0}, 0, 0, 0, 0, 0, 0), impl.Position{}, false},
		{positionOf(0, []int64{0, 0}, 0, 0, 0, 0, 0, 0), positionOf(0, []int64{0, 0}, 97, 0, 0, 0, 0, 0), false},
	} {
		checkSameNumber(t, r, c.a, c.b, c.want)
	}
	checkSameNumber(t, standardTable()["relay"], few, few, false)
	for _, bad := range invalidRules() {
		checkSameNumber(t, bad, few, few, false)
		checkSameNumber(t, bad, impl.Position{}, impl.Position{}, false)
	}
}

// TestSameNumberOfPairs compares positions of all kinds with each other.
func TestSameNumberOfPairs(t *testing.T) {
	for _, r := range boards() {
		var list []impl.Position
		for _, p := range slices.Concat(validPositions(r), nearMostSeeds(r)) {
			list = append(list, p, turned(p))
		}
		for _, seeds := range []int64{0, 1, 2} {
			least, last := endsOf(seeds, 2*r.Pits)
			list = append(list, positionOf(0, []int64{0, 0}, least...), positionOf(1, []int64{3, 0}, last...))
		}
		list = append(list, invalidPositions(r)[:20]...)
		for _, a := range list {
			for _, b := range list {
				want := mustBeValid(r, a) && mustBeValid(r, b) && slices.Equal(seen(a), seen(b)) && expectSeeds(r, bigSum(a.Pits).Int64()) == impl.OK
				if impl.SameNumber(r, a, b) != want {
					t.Errorf("%+v: SameNumber of %+v and %+v is not %v", r, a, b, want)
				}
			}
		}
	}
}

func TestNumbersOfInvalidPositions(t *testing.T) {
	invalidPairs(func(r impl.Rules, p impl.Position) {
		checkNoNumber(t, r, p, impl.ErrInvalid)
		if impl.ValidRules(r) {
			checkSameNumber(t, r, p, positionOf(0, []int64{0, 0}, make([]int64, 2*r.Pits)...), false)
		}
	})
}

// TestErrorsOfNumbers has several errors at once.
func TestErrorsOfNumbers(t *testing.T) {
	for _, r := range append(boards(), invalidRules()...) {
		for _, a := range append([]int64{0, 1, 2, 91, 92, 96, 97}, extremes...) {
			code := int64(impl.ErrRange)
			if !impl.ValidRules(r) {
				code = impl.ErrInvalid
				checkNumbers(t, r, a, 0, 0, code)
				checkAtIndex(t, r, a, nil, code)
			}
			for _, b := range append([]int64{0, 1, 1e9 - 1, 1e9, 1e9 + 1}, extremes...) {
				count, _, wrong := expectNumbers(r, a)
				if wrong != impl.OK || b < 0 || b >= count {
					checkPositionAt(t, r, a, b, nil, code)
				}
			}
		}
	}
	for _, r := range boards() {
		for _, index := range append([]int64{1e9, 1e9 + 1, 1<<32 + 4}, extremes...) {
			if index < 0 || index >= 1e9 {
				checkAtIndex(t, r, index, nil, impl.ErrRange)
			}
		}
		// The position is not valid, and the seeds in its pits are too many for a number as well.
		checkNoNumber(t, r, positionOf(2, []int64{0, 0}, slices.Repeat([]int64{12}, int(2*r.Pits))...), impl.ErrInvalid)
		checkNoNumber(t, r, positionOf(0, []int64{0, 0}, slices.Repeat([]int64{97}, int(2*r.Pits))...), impl.ErrInvalid)
		checkNoNumber(t, r, positionOf(0, []int64{0, 0}, slices.Repeat([]int64{-1}, int(2*r.Pits))...), impl.ErrInvalid)
	}
}

func TestNumbersLeaveTheirArguments(t *testing.T) {
	for _, r := range append(boards(), invalidRules()[:3]...) {
		positions := append(validPositions(boards()[1]), invalidPositions(boards()[1])...)
		if impl.ValidRules(r) {
			positions = append(validPositions(r), invalidPositions(r)...)
		}
		for i, p := range positions {
			a, sameA := spacious(p)
			b, sameB := spacious(positions[len(positions)-1-i])
			resultsOfNumbers(r, a, b, 2, 1)
			if !sameA() || !sameB() {
				t.Fatalf("%+v: %+v or %+v was changed", r, p, b)
			}
		}
	}
}

func TestPositionsOfNumbersAreNewMemory(t *testing.T) {
	for _, r := range boards() {
		none := func() bool { return true }
		for _, n := range []int64{0, 1, 2, 3, 16} {
			checkNewPositions(t, n, none, map[string]func() impl.Position{
				"PositionAt": func() impl.Position { p, _ := impl.PositionAt(r, n, n/2); return p },
				"AtIndex":    func() impl.Position { p, _ := impl.AtIndex(r, 100*n); return p },
			})
		}
	}
}
