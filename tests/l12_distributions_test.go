package tests

import (
	"math"
	"math/big"
	"math/rand"
	"slices"
	"testing"

	"loop.example/g00926/impl"
)

func TestLimitsOfDistributions(t *testing.T) {
	if impl.MaxPlaces != 16 || impl.MaxRank != 1000000000000000 || impl.MaxAll != 3000 {
		t.Errorf("MaxPlaces is %d, MaxRank is %d, MaxAll is %d", impl.MaxPlaces, int64(impl.MaxRank), impl.MaxAll)
	}
}

// pascal has the numbers of ways for up to 200 things, added up as in Pascal's triangle.
func pascal() [][]*big.Int {
	rows := [][]*big.Int{{big.NewInt(1)}}
	for n := 1; n <= 200; n++ {
		row := []*big.Int{big.NewInt(1)}
		for k := 1; k < n; k++ {
			row = append(row, new(big.Int).Add(rows[n-1][k-1], rows[n-1][k]))
		}
		rows = append(rows, append(row, big.NewInt(1)))
	}
	return rows
}

// triangle is read only.
var triangle = pascal()

// fitting returns a number and OK if it is at most MaxRank, and ErrRange otherwise.
func fitting(n *big.Int) (int64, int64) {
	if n.Cmp(big.NewInt(1000000000000000)) > 0 {
		return 0, impl.ErrRange
	}
	return n.Int64(), impl.OK
}

// expectChoose is what the chapter says of Choose.
func expectChoose(n, k int64) (int64, int64) {
	switch {
	case n < 0 || k < 0 || n > 200:
		return 0, impl.ErrRange
	case k > n:
		return 0, impl.OK
	}
	return fitting(triangle[n][k])
}

func checkChoose(t *testing.T, n, k, want, code int64) {
	t.Helper()
	if got, other := impl.Choose(n, k); got != want || other != code {
		t.Errorf("Choose(%d, %d) = %d, %d, want %d, %d", n, k, got, other, want, code)
	}
}

func TestChoose(t *testing.T) {
	numbers := append([]int64{255, 256, 257, 1 << 31, 1<<32 + 5, 1 << 62}, extremes...)
	for n := int64(-2); n <= 205; n++ {
		numbers = append(numbers, n)
	}
	for _, n := range numbers {
		for _, k := range numbers {
			want, code := expectChoose(n, k)
			checkChoose(t, n, k, want, code)
		}
	}
}

func TestChooseByHand(t *testing.T) {
	for _, c := range [][4]int64{
		{0, 0, 1, impl.OK}, {0, 1, 0, impl.OK}, {1, 0, 1, impl.OK}, {1, 1, 1, impl.OK}, {1, 2, 0, impl.OK}, {2, 1, 2, impl.OK},
		{5, 0, 1, impl.OK}, {5, 1, 5, impl.OK}, {5, 2, 10, impl.OK}, {5, 3, 10, impl.OK}, {5, 4, 5, impl.OK}, {5, 5, 1, impl.OK}, {5, 6, 0, impl.OK},
		{49, 6, 13983816, impl.OK}, {52, 5, 2598960, impl.OK}, {52, 47, 2598960, impl.OK}, {40, 20, 137846528820, impl.OK},
		{200, 0, 1, impl.OK}, {200, 1, 200, impl.OK}, {200, 2, 19900, impl.OK}, {200, 198, 19900, impl.OK}, {200, 199, 200, impl.OK}, {200, 200, 1, impl.OK},
		{200, 201, 0, impl.OK}, {200, math.MaxInt64, 0, impl.OK}, {0, math.MaxInt64, 0, impl.OK},
		// The row of 200 things goes on to numbers with 59 digits between these two.
		{200, 8, 55098996177225, impl.OK}, {200, 192, 55098996177225, impl.OK},
		{200, 9, 0, impl.ErrRange}, {200, 191, 0, impl.ErrRange}, {200, 100, 0, impl.ErrRange}, {199, 100, 0, impl.ErrRange},
		{201, 0, 0, impl.ErrRange}, {201, 1, 0, impl.ErrRange}, {201, 201, 0, impl.ErrRange}, {201, 202, 0, impl.ErrRange}, {201, math.MaxInt64, 0, impl.ErrRange},
		{-1, 0, 0, impl.ErrRange}, {0, -1, 0, impl.ErrRange}, {-1, -1, 0, impl.ErrRange}, {5, -1, 0, impl.ErrRange}, {-1, 5, 0, impl.ErrRange}, {200, -1, 0, impl.ErrRange},
		{math.MinInt64, 0, 0, impl.ErrRange}, {0, math.MinInt64, 0, impl.ErrRange}, {math.MaxInt64, math.MaxInt64, 0, impl.ErrRange},
		{math.MaxInt64, math.MinInt64, 0, impl.ErrRange}, {math.MinInt64, math.MaxInt64, 0, impl.ErrRange}, {math.MaxInt64, 0, 0, impl.ErrRange},
	} {
		checkChoose(t, c[0], c[1], c[2], c[3])
	}
}

// TestChooseNearMaxRank has the greatest result that is not too great, and the least one that is.
func TestChooseNearMaxRank(t *testing.T) {
	const most, beyond = 976325290056480, 1012974972473835
	var fine, great []*big.Int
	for _, row := range triangle {
		for _, n := range row {
			if n.Cmp(big.NewInt(impl.MaxRank)) <= 0 {
				fine = append(fine, n)
			} else {
				great = append(great, n)
			}
		}
	}
	if n := slices.MaxFunc(fine, (*big.Int).Cmp); n.Cmp(big.NewInt(most)) != 0 {
		t.Errorf("the greatest number that is not too great is %v", n)
	}
	if n := slices.MinFunc(great, (*big.Int).Cmp); n.Cmp(big.NewInt(beyond)) != 0 {
		t.Errorf("the least number that is too great is %v", n)
	}
	checkChoose(t, 196, 9, most, impl.OK)
	checkChoose(t, 196, 187, most, impl.OK)
	checkChoose(t, 63, 17, 0, impl.ErrRange)
	checkChoose(t, 63, 46, 0, impl.ErrRange)
}

// eachDistribution goes through all distributions in their order, in its own way.
func eachDistribution(seeds, pits int64, do func(list []int64)) {
	list := make([]int64, pits)
	var fill func(at, left int64)
	fill = func(at, left int64) {
		if at == pits-1 {
			list[at] = left
			do(slices.Clone(list))
			return
		}
		for n := range left + 1 {
			list[at] = n
			fill(at+1, left-n)
		}
	}
	fill(0, seeds)
}

func distributions(seeds, pits int64) [][]int64 {
	var all [][]int64
	eachDistribution(seeds, pits, func(list []int64) { all = append(all, list) })
	return all
}

// expectCount is what the chapter says of CountSeeds.
func expectCount(seeds, pits int64) (int64, int64) {
	if seeds < 0 || seeds > 96 || pits < 1 || pits > 16 {
		return 0, impl.ErrRange
	}
	return fitting(triangle[seeds+pits-1][pits-1])
}

// mustBeDistribution says what the chapter says of a valid distribution.
func mustBeDistribution(pits []int64) bool {
	if len(pits) < 1 || len(pits) > 16 || slices.Min(pits) < 0 || bigSum(pits).Cmp(big.NewInt(96)) > 0 {
		return false
	}
	_, code := expectCount(bigSum(pits).Int64(), int64(len(pits)))
	return code == impl.OK
}

// expectRank adds up the distributions with fewer seeds in each pit and the same ones before it; pits are a valid distribution.
func expectRank(pits []int64) int64 {
	rank, left := new(big.Int), bigSum(pits).Int64()
	for i, seeds := range pits[:len(pits)-1] {
		behind := int64(len(pits) - i - 1)
		for n := range seeds {
			rank.Add(rank, triangle[left-n+behind-1][behind-1])
		}
		left -= seeds
	}
	return rank.Int64()
}

// checkDistribution checks what the functions return for a valid distribution; the distributions around it are nil if there are none.
func checkDistribution(t *testing.T, pits []int64, rank int64, last, next []int64) {
	t.Helper()
	if !impl.ValidSeeds(pits) {
		t.Errorf("%v is not valid", pits)
	}
	if got, code := impl.RankSeeds(pits); got != rank || code != impl.OK {
		t.Errorf("RankSeeds(%v) = %d, %d, want %d", pits, got, code, rank)
	}
	if got, code := impl.UnrankSeeds(bigSum(pits).Int64(), int64(len(pits)), rank); !slices.Equal(got, pits) || code != impl.OK {
		t.Errorf("the distribution with the rank %d is %v, %d, want %v", rank, got, code, pits)
	}
	if got, code := impl.NextSeeds(pits); !slices.Equal(got, next) || (code == impl.OK) != (next != nil) || (code == impl.ErrNotFound) != (next == nil) {
		t.Errorf("NextSeeds(%v) = %v, %d, want %v", pits, got, code, next)
	}
	if got, code := impl.LastSeeds(pits); !slices.Equal(got, last) || (code == impl.OK) != (last != nil) || (code == impl.ErrNotFound) != (last == nil) {
		t.Errorf("LastSeeds(%v) = %v, %d, want %v", pits, got, code, last)
	}
}

// checkNoDistribution checks that the functions return ErrInvalid.
func checkNoDistribution(t *testing.T, pits []int64) {
	t.Helper()
	rank, one := impl.RankSeeds(pits)
	next, two := impl.NextSeeds(pits)
	last, three := impl.LastSeeds(pits)
	if one != impl.ErrInvalid || two != impl.ErrInvalid || three != impl.ErrInvalid || impl.ValidSeeds(pits) {
		t.Errorf("%v: RankSeeds returns %d, NextSeeds %d, LastSeeds %d, ValidSeeds %v", pits, one, two, three, impl.ValidSeeds(pits))
	}
	if rank != 0 || len(next) > 0 || len(last) > 0 {
		t.Errorf("%v: together with errors there are %d, %v and %v", pits, rank, next, last)
	}
}

// TestAllDistributions is promise 12 wherever there are not more than MaxAll distributions.
func TestAllDistributions(t *testing.T) {
	combinations := 0
	for pits := int64(1); pits <= 16; pits++ {
		for seeds := int64(0); seeds <= 96; seeds++ {
			if count, code := expectCount(seeds, pits); code != impl.OK || count > 3000 {
				continue
			}
			combinations++
			all := distributions(seeds, pits)
			if got, code := impl.AllSeeds(seeds, pits); !equalDistributions(got, all) || code != impl.OK {
				t.Fatalf("AllSeeds(%d, %d) = %v, %d", seeds, pits, got, code)
			}
			if got, code := impl.CountSeeds(seeds, pits); got != int64(len(all)) || code != impl.OK {
				t.Errorf("CountSeeds(%d, %d) = %d, %d, want %d", seeds, pits, got, code, len(all))
			}
			around := slices.Concat([][]int64{nil}, all, [][]int64{nil})
			for rank, list := range all {
				checkDistribution(t, list, int64(rank), around[rank], around[rank+2])
			}
		}
	}
	if combinations != 2*97+76+25+14+10+8+7+6+6+5+5+5+5+4+4 {
		t.Errorf("there were %d combinations", combinations)
	}
}

func equalDistributions(a, b [][]int64) bool {
	return slices.EqualFunc(a, b, slices.Equal[[]int64])
}

// TestDistributionsOneAfterTheOther goes from the first one to the last one and back where there are more than MaxAll.
func TestDistributionsOneAfterTheOther(t *testing.T) {
	for _, c := range [][2]int64{{76, 3}, {25, 4}, {96, 3}, {14, 5}, {10, 6}, {6, 9}, {5, 11}, {4, 16}, {9, 8}} {
		all := distributions(c[0], c[1])
		if len(all) <= 3000 {
			t.Fatalf("there are %d distributions of %d seeds in %d pits", len(all), c[0], c[1])
		}
		list, code := impl.UnrankSeeds(c[0], c[1], 0)
		for rank, want := range all {
			if !slices.Equal(list, want) || code != impl.OK {
				t.Fatalf("the distribution %d of %d seeds is %v, %d, want %v", rank, c[0], list, code, want)
			}
			list, code = impl.NextSeeds(list)
		}
		if len(list) > 0 || code != impl.ErrNotFound {
			t.Errorf("behind the last one of %d seeds in %d pits is %v, %d", c[0], c[1], list, code)
		}
		list, code = impl.UnrankSeeds(c[0], c[1], int64(len(all)-1))
		for rank, want := range slices.Backward(all) {
			if !slices.Equal(list, want) || code != impl.OK {
				t.Fatalf("backward, the distribution %d of %d seeds is %v, %d, want %v", rank, c[0], list, code, want)
			}
			if got, other := impl.RankSeeds(list); got != int64(rank) || other != impl.OK {
				t.Fatalf("RankSeeds(%v) = %d, %d, want %d", list, got, other, rank)
			}
			list, code = impl.LastSeeds(list)
		}
		if len(list) > 0 || code != impl.ErrNotFound {
			t.Errorf("before the first one of %d seeds in %d pits is %v, %d", c[0], c[1], list, code)
		}
	}
}

func TestDistributionsByHand(t *testing.T) {
	checkDistribution(t, []int64{0}, 0, nil, nil)
	checkDistribution(t, []int64{1}, 0, nil, nil)
	checkDistribution(t, []int64{96}, 0, nil, nil)
	checkDistribution(t, []int64{0, 0}, 0, nil, nil)
	checkDistribution(t, make([]int64, 16), 0, nil, nil)
	checkDistribution(t, []int64{0, 96}, 0, nil, []int64{1, 95})
	checkDistribution(t, []int64{95, 1}, 95, []int64{94, 2}, []int64{96, 0})
	checkDistribution(t, []int64{96, 0}, 96, []int64{95, 1}, nil)
	checkDistribution(t, []int64{0, 2, 0}, 2, []int64{0, 1, 1}, []int64{1, 0, 1})
	checkDistribution(t, []int64{0, 3, 0}, 3, []int64{0, 2, 1}, []int64{1, 0, 2})
	checkDistribution(t, []int64{1, 0, 2}, 4, []int64{0, 3, 0}, []int64{1, 1, 1})
	checkDistribution(t, []int64{2, 0, 1, 0}, 17, []int64{2, 0, 0, 1}, []int64{2, 1, 0, 0})
	checkDistribution(t, []int64{2, 0, 4, 0, 0, 0}, 370, []int64{2, 0, 3, 1, 0, 0}, []int64{2, 1, 0, 0, 0, 3})
	// 56 seeds in 16 pits have 914734449370024 distributions, 57 seeds too many.
	checkDistribution(t, []int64{0, 0, 0, 0, 0, 0, 0, 0, 0, 0, 0, 0, 0, 0, 0, 56}, 0, nil, []int64{0, 0, 0, 0, 0, 0, 0, 0, 0, 0, 0, 0, 0, 0, 1, 55})
	checkDistribution(t, []int64{0, 0, 0, 0, 0, 0, 0, 0, 0, 0, 0, 0, 0, 0, 56, 0}, 56,
		[]int64{0, 0, 0, 0, 0, 0, 0, 0, 0, 0, 0, 0, 0, 0, 55, 1}, []int64{0, 0, 0, 0, 0, 0, 0, 0, 0, 0, 0, 0, 0, 1, 0, 55})
	checkDistribution(t, []int64{55, 0, 0, 0, 0, 0, 0, 0, 0, 0, 0, 0, 0, 0, 0, 1}, 914734449370008,
		[]int64{54, 2, 0, 0, 0, 0, 0, 0, 0, 0, 0, 0, 0, 0, 0, 0}, []int64{55, 0, 0, 0, 0, 0, 0, 0, 0, 0, 0, 0, 0, 0, 1, 0})
	checkDistribution(t, []int64{56, 0, 0, 0, 0, 0, 0, 0, 0, 0, 0, 0, 0, 0, 0, 0}, 914734449370023,
		[]int64{55, 1, 0, 0, 0, 0, 0, 0, 0, 0, 0, 0, 0, 0, 0, 0}, nil)
}

func TestExamplesOfDistributions(t *testing.T) {
	all, code := impl.AllSeeds(2, 2)
	if !equalDistributions(all, [][]int64{{0, 2}, {1, 1}, {2, 0}}) || code != impl.OK {
		t.Errorf("the distributions of 2 seeds in 2 pits are %v, %d", all, code)
	}
	checkDistribution(t, []int64{0, 2}, 0, nil, []int64{1, 1})
	checkDistribution(t, []int64{1, 1}, 1, []int64{0, 2}, []int64{2, 0})
	checkDistribution(t, []int64{2, 0}, 2, []int64{1, 1}, nil)
}

// numbersOfPlaces has numbers at the limits of seeds and pits, and others.
func numbersOfPlaces() []int64 {
	numbers := append([]int64{255, 256, 257, 1<<32 + 2, 1 << 62}, extremes...)
	for n := int64(-3); n <= 99; n++ {
		numbers = append(numbers, n)
	}
	return numbers
}

// checkUnrank checks what UnrankSeeds returns for any rank; count is the number of distributions, 0 if they cannot be numbered.
func checkUnrank(t *testing.T, seeds, pits, rank, count int64) {
	t.Helper()
	list, code := impl.UnrankSeeds(seeds, pits, rank)
	if rank < 0 || rank >= count {
		if len(list) > 0 || code != impl.ErrRange {
			t.Errorf("UnrankSeeds(%d, %d, %d) = %v, %d", seeds, pits, rank, list, code)
		}
		return
	}
	if code != impl.OK || int64(len(list)) != pits || !mustBeDistribution(list) || bigSum(list).Int64() != seeds || expectRank(list) != rank {
		t.Errorf("UnrankSeeds(%d, %d, %d) = %v, %d", seeds, pits, rank, list, code)
	}
}

// TestNumbersOfDistributions has all numbers of seeds and pits, and ranks at the limits.
func TestNumbersOfDistributions(t *testing.T) {
	for _, seeds := range numbersOfPlaces() {
		for _, pits := range numbersOfPlaces() {
			want, code := expectCount(seeds, pits)
			if got, other := impl.CountSeeds(seeds, pits); got != want || other != code {
				t.Errorf("CountSeeds(%d, %d) = %d, %d, want %d, %d", seeds, pits, got, other, want, code)
			}
			for _, rank := range append([]int64{0, 1, want / 2, want - 2, want - 1, want, want + 1, 1e15 - 1, 1e15, 1e15 + 1, -want}, extremes...) {
				checkUnrank(t, seeds, pits, rank, want)
			}
			if code == impl.OK && want > 3000 {
				code = impl.ErrFull
			}
			// The lists of the others are checked in TestAllDistributions.
			if all, other := impl.AllSeeds(seeds, pits); other != code || code != impl.OK && len(all) > 0 || code == impl.OK && int64(len(all)) != want {
				t.Errorf("AllSeeds(%d, %d) has %d lists and the code %d, want %d, %d", seeds, pits, len(all), other, want, code)
			}
		}
	}
}

func TestCountsByHand(t *testing.T) {
	for _, c := range [][4]int64{
		{0, 1, 1, impl.OK}, {96, 1, 1, impl.OK}, {0, 16, 1, impl.OK}, {1, 16, 16, impl.OK}, {2, 2, 3, impl.OK}, {96, 2, 97, impl.OK}, {12, 6, 6188, impl.OK},
		{97, 1, 0, impl.ErrRange}, {97, 2, 0, impl.ErrRange}, {-1, 2, 0, impl.ErrRange}, {0, 0, 0, impl.ErrRange}, {2, 0, 0, impl.ErrRange}, {2, -1, 0, impl.ErrRange},
		{0, 17, 0, impl.ErrRange}, {1, 17, 0, impl.ErrRange}, {-1, 0, 0, impl.ErrRange}, {97, 17, 0, impl.ErrRange}, {-1, 17, 0, impl.ErrRange},
		// These are just not too many, or just too many.
		{96, 12, 309847743777845, impl.OK}, {87, 13, 924370524973896, impl.OK}, {88, 13, 0, impl.ErrRange}, {73, 14, 870366750378300, impl.OK}, {74, 14, 0, impl.ErrRange},
		{63, 15, 839983521106400, impl.OK}, {64, 15, 0, impl.ErrRange}, {56, 16, 914734449370024, impl.OK}, {57, 16, 0, impl.ErrRange}, {96, 16, 0, impl.ErrRange},
		{math.MaxInt64, 1, 0, impl.ErrRange}, {math.MinInt64, 1, 0, impl.ErrRange}, {1, math.MaxInt64, 0, impl.ErrRange}, {1, math.MinInt64, 0, impl.ErrRange},
		{math.MaxInt64, math.MaxInt64, 0, impl.ErrRange}, {math.MinInt64, math.MinInt64, 0, impl.ErrRange}, {math.MaxInt64, math.MinInt64, 0, impl.ErrRange},
	} {
		if got, code := impl.CountSeeds(c[0], c[1]); got != c[2] || code != c[3] {
			t.Errorf("CountSeeds(%d, %d) = %d, %d, want %d, %d", c[0], c[1], got, code, c[2], c[3])
		}
	}
}

// TestAllSeedsNearMaxAll has the greatest number of lists that is not too great, 2926, and the least one that is, 3003; more than MaxRank is ErrRange.
func TestAllSeedsNearMaxAll(t *testing.T) {
	for _, c := range [][4]int64{
		{75, 3, 2926, impl.OK}, {24, 4, 2925, impl.OK}, {76, 3, 0, impl.ErrFull}, {10, 6, 0, impl.ErrFull}, {8, 7, 0, impl.ErrFull}, {6, 9, 0, impl.ErrFull}, {5, 11, 0, impl.ErrFull},
		{25, 4, 0, impl.ErrFull}, {14, 5, 0, impl.ErrFull}, {40, 16, 0, impl.ErrFull}, {56, 16, 0, impl.ErrFull}, {57, 16, 0, impl.ErrRange}, {87, 13, 0, impl.ErrFull}, {88, 13, 0, impl.ErrRange},
		{97, 3, 0, impl.ErrRange}, {97, 1, 0, impl.ErrRange}, {96, 1, 1, impl.OK}, {96, 2, 97, impl.OK}, {3, 16, 816, impl.OK}, {4, 16, 0, impl.ErrFull}, {4, 17, 0, impl.ErrRange},
	} {
		if all, code := impl.AllSeeds(c[0], c[1]); int64(len(all)) != c[2] || code != c[3] {
			t.Errorf("AllSeeds(%d, %d) has %d lists and the code %d, want %d, %d", c[0], c[1], len(all), code, c[2], c[3])
		}
	}
}

// endsOf has the first and the last distribution of some seeds in some pits.
func endsOf(seeds, pits int64) ([]int64, []int64) {
	first, last := make([]int64, pits), make([]int64, pits)
	first[pits-1], last[0] = seeds, seeds
	return first, last
}

// TestFirstAndLastDistributions has the ends for all seeds and pits, and what is beside them.
func TestFirstAndLastDistributions(t *testing.T) {
	for pits := int64(1); pits <= 17; pits++ {
		for seeds := int64(0); seeds <= 97; seeds++ {
			first, last := endsOf(seeds, pits)
			count, code := expectCount(seeds, pits)
			if code != impl.OK {
				checkNoDistribution(t, first)
				checkNoDistribution(t, last)
				continue
			}
			if count == 1 {
				checkDistribution(t, first, 0, nil, nil)
				continue
			}
			second, beforeLast := slices.Clone(first), slices.Clone(last)
			second[pits-1]--
			second[pits-2]++
			beforeLast[0]--
			beforeLast[1]++
			checkDistribution(t, first, 0, nil, second)
			checkDistribution(t, last, count-1, beforeLast, nil)
			forth, one := impl.NextSeeds(beforeLast)
			back, two := impl.LastSeeds(second)
			if !slices.Equal(forth, last) || !slices.Equal(back, first) || one != impl.OK || two != impl.OK {
				t.Errorf("beside %v and %v are %v, %d, and %v, %d", second, beforeLast, back, two, forth, one)
			}
		}
	}
}

// someDistribution puts seeds into pits, into few of them as often as into many.
func someDistribution(random *rand.Rand, seeds, pits int64) []int64 {
	list := make([]int64, pits)
	for seeds > 0 {
		part := 1 + random.Int63n(seeds)
		if random.Intn(2) == 0 {
			part = 1
		}
		list[random.Int63n(pits)] += part
		seeds -= part
	}
	return list
}

// validDistributions has some distributions for all seeds and pits for which there are any.
func validDistributions() [][]int64 {
	random := rand.New(rand.NewSource(1212))
	var lists [][]int64
	for pits := int64(1); pits <= 16; pits++ {
		for seeds := int64(0); seeds <= 96; seeds++ {
			if _, code := expectCount(seeds, pits); code == impl.OK {
				for range 4 {
					lists = append(lists, someDistribution(random, seeds, pits))
				}
			}
		}
	}
	return lists
}

// TestRanksOfManyDistributions is promise 12 for great numbers of distributions.
func TestRanksOfManyDistributions(t *testing.T) {
	for _, list := range validDistributions() {
		rank := expectRank(list)
		seeds, pits := bigSum(list).Int64(), int64(len(list))
		last, one := impl.UnrankSeeds(seeds, pits, rank-1)
		next, two := impl.UnrankSeeds(seeds, pits, rank+1)
		count, _ := expectCount(seeds, pits)
		if (one == impl.OK) != (rank > 0) || (two == impl.OK) != (rank < count-1) {
			t.Errorf("%v with the rank %d: beside it are %v, %d and %v, %d", list, rank, last, one, next, two)
		}
		if one == impl.OK && (slices.Compare(last, list) >= 0 || expectRank(last) != rank-1) || two == impl.OK && (slices.Compare(next, list) <= 0 || expectRank(next) != rank+1) {
			t.Errorf("%v with the rank %d is not between %v and %v", list, rank, last, next)
		}
		checkDistribution(t, list, rank, last, next)
	}
}

// TestRanksAtRandom has any ranks of great numbers of distributions.
func TestRanksAtRandom(t *testing.T) {
	random := rand.New(rand.NewSource(1213))
	for pits := int64(1); pits <= 16; pits++ {
		for seeds := int64(0); seeds <= 96; seeds++ {
			if count, code := expectCount(seeds, pits); code == impl.OK {
				for range 5 {
					checkUnrank(t, seeds, pits, random.Int63n(count), count)
				}
			}
		}
	}
}

// invalidLists has lists that are no valid distributions, for each reason and for several ones at once.
func invalidLists() [][]int64 {
	lists := [][]int64{
		nil, {}, make([]int64, 17), make([]int64, 18), make([]int64, 272), make([]int64, 5000),
		{-1}, {97}, {math.MinInt64}, {math.MaxInt64}, {98}, {352}, {1 << 32}, {1<<32 + 3},
		{-1, 1}, {1, -1}, {0, -1}, {-1, 0}, {97, 0}, {0, 97}, {96, 1}, {1, 96}, {50, 47}, {48, 49}, {97, -1}, {-1, 97}, {98, -2, 0}, {0, -5, 10, 0},
		// Sums that do not fit in an int64: these wrap around to 0, 2, 5, -2 and 96.
		{math.MinInt64, math.MinInt64}, {math.MaxInt64, math.MaxInt64, 4}, {math.MaxInt64, math.MaxInt64, 7}, {math.MaxInt64, math.MaxInt64}, {math.MaxInt64, math.MaxInt64, 96, 2},
		{1 << 62, 1 << 62, 1 << 62, 1 << 62}, {1, 1 << 62, 1 << 62, 1 << 62, 1 << 62}, {96, math.MaxInt64}, {math.MaxInt64, 1}, {1, math.MaxInt64}, {math.MinInt64, -1}, {math.MinInt64, math.MaxInt64, 1},
		slices.Repeat([]int64{1 << 60}, 16), slices.Repeat([]int64{7}, 14), slices.Repeat([]int64{6}, 16), slices.Repeat([]int64{1}, 17), slices.Repeat([]int64{-1}, 16), slices.Repeat([]int64{4}, 16),
	}
	// There are too many distributions of these seeds, though the lists are short enough and have not too many seeds.
	for _, c := range [][2]int64{{88, 13}, {96, 13}, {74, 14}, {96, 14}, {64, 15}, {96, 15}, {57, 16}, {96, 16}} {
		first, last := endsOf(c[0], c[1])
		lists = append(lists, first, last)
	}
	return lists
}

func TestInvalidDistributions(t *testing.T) {
	for _, list := range invalidLists() {
		if mustBeDistribution(list) {
			t.Fatalf("%v is valid", list)
		}
		checkNoDistribution(t, list)
	}
}

// TestSpoiledDistributions puts other numbers into valid distributions.
func TestSpoiledDistributions(t *testing.T) {
	valid, invalid := 0, 0
	for i, list := range validDistributions() {
		at := i % len(list)
		for _, n := range append([]int64{-list[at], 1, 95, 96, 97}, extremes...) {
			changed := slices.Clone(list)
			changed[at] += n
			if !mustBeDistribution(changed) {
				invalid++
				checkNoDistribution(t, changed)
				continue
			}
			valid++
			if rank, code := impl.RankSeeds(changed); rank != expectRank(changed) || code != impl.OK || !impl.ValidSeeds(changed) {
				t.Errorf("RankSeeds(%v) = %d, %d", changed, rank, code)
			}
		}
	}
	if min(valid, invalid) < 1000 {
		t.Errorf("only %d changed lists were valid, and %d not", valid, invalid)
	}
}

// TestErrorsOfDistributions has several errors at once.
func TestErrorsOfDistributions(t *testing.T) {
	// These would be the first or the last distribution if they were valid.
	checkNoDistribution(t, []int64{97, 0})
	checkNoDistribution(t, []int64{0, 97})
	checkNoDistribution(t, []int64{97})
	checkNoDistribution(t, make([]int64, 17))
	for _, c := range [][3]int64{
		{-1, 0, -1}, {-1, 2, 0}, {2, 0, 0}, {2, 17, 0}, {97, 2, 0}, {97, 17, -1}, {57, 16, 0}, {57, 16, -1}, {57, 16, math.MaxInt64}, {96, 16, 1e15}, {2, 2, -1}, {2, 2, 3},
		{2, 2, 4}, {0, 1, 1}, {0, 1, -1}, {0, 16, 1}, {96, 1, 1}, {56, 16, 914734449370024}, {2, 2, math.MaxInt64}, {2, 2, math.MinInt64},
		{math.MinInt64, math.MinInt64, math.MinInt64}, {math.MaxInt64, math.MaxInt64, math.MaxInt64}, {math.MaxInt64, math.MinInt64, 0}, {math.MinInt64, 1, 0}, {1, math.MaxInt64, 0},
	} {
		checkUnrank(t, c[0], c[1], c[2], 0)
	}
	for _, c := range [][2]int64{{-1, 0}, {97, 16}, {-1, 16}, {97, 17}, {57, 16}, {40, 17}, {40, 0}, {-1, 2}, {math.MinInt64, math.MaxInt64}, {math.MaxInt64, 16}} {
		if all, code := impl.AllSeeds(c[0], c[1]); len(all) > 0 || code != impl.ErrRange {
			t.Errorf("AllSeeds(%d, %d) has %d lists and the code %d", c[0], c[1], len(all), code)
		}
	}
}

func TestDistributionsLeaveTheirArguments(t *testing.T) {
	for _, list := range append(validDistributions(), invalidLists()...) {
		p, unchanged := spacious(impl.Position{Pits: list})
		resultsOfDistributions(p.Pits, 2, 2, 1)
		if !unchanged() {
			t.Fatalf("%v was changed", list)
		}
	}
}

func TestDistributionsAreNewMemory(t *testing.T) {
	for i, list := range validDistributions() {
		p, unchanged := spacious(impl.Position{Pits: list})
		seeds, pits := bigSum(list).Int64(), int64(len(list))
		checkNewPositions(t, list, unchanged, map[string]func() impl.Position{
			"UnrankSeeds": func() impl.Position { s, _ := impl.UnrankSeeds(seeds, pits, 0); return impl.Position{Pits: s} },
			"NextSeeds":   func() impl.Position { s, _ := impl.NextSeeds(p.Pits); return impl.Position{Pits: s} },
			"LastSeeds":   func() impl.Position { s, _ := impl.LastSeeds(p.Pits); return impl.Position{Pits: s} },
		})
		if count, _ := expectCount(seeds, pits); count > 3000 || i%16 > 0 {
			continue
		}
		first, _ := impl.AllSeeds(seeds, pits)
		second, _ := impl.AllSeeds(seeds, pits)
		checkApart(t, "AllSeeds", first[:min(len(first), 100)])
		clear(first[:cap(first)])
		if !equalDistributions(second, distributions(seeds, pits)) {
			t.Fatalf("the results of AllSeeds(%d, %d) share memory", seeds, pits)
		}
	}
}
