package tests

import (
	"math"
	"math/rand"
	"slices"
	"strings"
	"testing"

	"loop.example/g00926/impl"
)

// captureRules has each kind of captures with each slam rule, for a number of pits.
func captureRules(pits int64, stores bool) []impl.Rules {
	var all []impl.Rules
	for kind := range int64(4) {
		for slam := range int64(3) {
			all = append(all, impl.Rules{Pits: pits, Seeds: 1 + pits%6, Stores: stores, Capture: kind, Slam: slam})
		}
	}
	return all
}

// allCaptureRules has these rules for each number of pits, with and without stores.
func allCaptureRules() []impl.Rules {
	var all []impl.Rules
	for pits := int64(2); pits <= 8; pits++ {
		all = append(append(all, captureRules(pits, false)...), captureRules(pits, true)...)
	}
	return all
}

func sownOf(last int64, stores []int64, pits ...int64) impl.Sown {
	return impl.Sown{Pits: pits, Stores: stores, Last: last, Laps: 1}
}

// sidePits has the pits of a player, in ascending order.
func sidePits(r impl.Rules, player int64) []int64 {
	var pits []int64
	for move := range r.Pits {
		pits = append(pits, player*r.Pits+move)
	}
	return pits
}

type expectedCapture struct {
	pits  []int64
	slam  bool
	gain  int64
	after impl.Sown
}

// takenBySeeds tells, pit by pit, what a kind of captures takes, without the slam rule.
func takenBySeeds(r impl.Rules, s impl.Sown, player int64) []int64 {
	others := sidePits(r, 1-player)
	few := func(pit int64) bool { return s.Pits[pit] == 2 || s.Pits[pit] == 3 }
	var taken []int64
	switch at := slices.Index(others, s.Last); {
	case r.Capture == 1:
		for i, pit := range others {
			if i <= at && !slices.ContainsFunc(others[i:at+1], func(p int64) bool { return !few(p) }) {
				taken = slices.Insert(taken, 0, pit)
			}
		}
	case r.Capture == 2:
		mine := slices.Index(sidePits(r, player), s.Last)
		if mine >= 0 && s.Pits[s.Last] == 1 && s.Pits[others[len(others)-1-mine]] > 0 {
			taken = []int64{s.Last, others[len(others)-1-mine]}
		}
	case r.Capture == 3 && at >= 0 && s.Pits[s.Last]&1 == 0:
		taken = []int64{s.Last}
	}
	return taken
}

// expectCapture is what must come of a valid Sown.
func expectCapture(r impl.Rules, s impl.Sown, player int64) expectedCapture {
	want := expectedCapture{pits: takenBySeeds(r, s, player), after: cloneSown(s)}
	left := cloneSown(s)
	for _, pit := range want.pits {
		left.Pits[pit] = 0
	}
	before, behind := int64(0), int64(0)
	for _, pit := range sidePits(r, 1-player) {
		before += s.Pits[pit]
		behind += left.Pits[pit]
	}
	want.slam = behind == 0 && before > 0
	if want.slam && r.Slam == 2 {
		want.pits = nil
	}
	for _, pit := range want.pits {
		want.gain += s.Pits[pit]
		want.after.Pits[pit] = 0
	}
	want.after.Stores[player] += want.gain
	return want
}

// checkCapture checks all that the functions of the chapter return for a valid Sown.
func checkCapture(t *testing.T, r impl.Rules, s impl.Sown, player int64, want expectedCapture) {
	t.Helper()
	if !impl.ValidSown(r, s, player) {
		t.Fatalf("%+v: %+v is not valid for player %d", r, s, player)
	}
	if got, code := impl.CapturePits(r, s, player); !slices.Equal(got, want.pits) || code != impl.OK {
		t.Fatalf("%+v: CapturePits(%+v, %d) = %v, %d, want %v", r, s, player, got, code, want.pits)
	}
	if got := impl.IsSlam(r, s, player); got != want.slam {
		t.Fatalf("%+v: IsSlam(%+v, %d) = %v", r, s, player, got)
	}
	if got, code := impl.CaptureGain(r, s, player); got != want.gain || code != impl.OK {
		t.Fatalf("%+v: CaptureGain(%+v, %d) = %d, %d, want %d", r, s, player, got, code, want.gain)
	}
	got, code := impl.TakeCaptures(r, s, player)
	if !equalSown(got, want.after) || code != impl.OK {
		t.Fatalf("%+v: TakeCaptures(%+v, %d) = %+v, %d, want %+v", r, s, player, got, code, want.after)
	}
	if bigSum(slices.Concat(got.Pits, got.Stores)).Cmp(bigSum(slices.Concat(s.Pits, s.Stores))) != 0 {
		t.Fatalf("%+v: TakeCaptures(%+v, %d) = %+v has other seeds", r, s, player, got)
	}
}

// checkNoCapture checks that a Sown is not valid.
func checkNoCapture(t *testing.T, r impl.Rules, s impl.Sown, player int64) {
	t.Helper()
	if impl.ValidSown(r, s, player) || impl.IsSlam(r, s, player) {
		t.Fatalf("%+v: %+v is valid or a slam for player %d", r, s, player)
	}
	if got, code := impl.CapturePits(r, s, player); len(got) != 0 || code != impl.ErrInvalid {
		t.Fatalf("%+v: CapturePits(%+v, %d) = %v, %d", r, s, player, got, code)
	}
	if got, code := impl.CaptureGain(r, s, player); got != 0 || code != impl.ErrInvalid {
		t.Fatalf("%+v: CaptureGain(%+v, %d) = %d, %d", r, s, player, got, code)
	}
	if got, code := impl.TakeCaptures(r, s, player); !equalSown(got, impl.Sown{}) || code != impl.ErrInvalid {
		t.Fatalf("%+v: TakeCaptures(%+v, %d) = %+v, %d", r, s, player, got, code)
	}
}

func TestCaptureName(t *testing.T) {
	for i, want := range []string{"none", "two-three", "cross", "even"} {
		if got := impl.CaptureName(int64(i)); got != want {
			t.Errorf("CaptureName(%d) = %q, want %q", i, got, want)
		}
		if got, code := impl.CaptureNamed(want); got != int64(i) || code != impl.OK {
			t.Errorf("CaptureNamed(%q) = %d, %d, want %d", want, got, code, i)
		}
	}
	for _, kind := range append([]int64{4, 5, 256, 1<<32 + 1}, extremes...) {
		if got := impl.CaptureName(kind); got != "" {
			t.Errorf("CaptureName(%d) = %q, want none", kind, got)
		}
	}
}

func TestCaptureNamedOfOtherNames(t *testing.T) {
	names := []string{
		"", " ", "odd", "take", "forbid", "nothing", "0", "1", "two", "three", "twothree", "two three", "two_three", "two-thre",
		"two-threes", "none-", "non", "crosses", "cros", "evens", "\x00", "\xff", "none\x00", "capture=none", "none,even",
		strings.Repeat("cross", 10000),
	}
	for _, name := range []string{"none", "two-three", "cross", "even"} {
		capital := strings.ToUpper(name[:1]) + name[1:]
		names = append(names, strings.ToUpper(name), capital, name+" ", " "+name, name+name, name+"\n")
	}
	for _, name := range names {
		if got, code := impl.CaptureNamed(name); got != 0 || code != impl.ErrNotFound {
			t.Errorf("CaptureNamed(%q) = %d, %d, want ErrNotFound", name, got, code)
		}
	}
}

// TestExampleOfCaptures is the example of the chapter, for either player.
func TestExampleOfCaptures(t *testing.T) {
	r := standardTable()["mini"]
	checkCapture(t, r, sownOf(5, []int64{0, 0}, 0, 0, 0, 1, 3, 2), 0, expectedCapture{
		pits: []int64{5, 4}, gain: 5, after: sownOf(5, []int64{5, 0}, 0, 0, 0, 1, 0, 0),
	})
	checkCapture(t, r, sownOf(2, []int64{7, 4}, 1, 3, 2, 0, 2, 3), 1, expectedCapture{
		pits: []int64{2, 1}, gain: 5, after: sownOf(2, []int64{7, 9}, 1, 0, 0, 0, 2, 3),
	})
}

type captureCase struct {
	capture int64
	player  int64
	last    int64
	pits    []int64
	want    []int64
	slam    bool
}

// handCases are boards of twice 4 pits, worked out by hand.
func handCases() []captureCase {
	return []captureCase{
		{0, 0, 6, []int64{1, 1, 1, 1, 0, 0, 2, 0}, nil, false},
		{0, 0, 1, []int64{1, 1, 1, 1, 0, 0, 2, 0}, nil, false},

		{1, 0, 6, []int64{1, 1, 1, 1, 0, 2, 1, 5}, nil, false},
		{1, 0, 6, []int64{1, 1, 1, 1, 0, 2, 4, 5}, nil, false},
		{1, 0, 6, []int64{1, 1, 1, 1, 0, 1, 2, 5}, []int64{6}, false},
		{1, 0, 6, []int64{1, 1, 1, 1, 0, 4, 3, 5}, []int64{6}, false},
		{1, 0, 6, []int64{1, 1, 1, 1, 2, 0, 3, 5}, []int64{6}, false},
		{1, 0, 6, []int64{1, 1, 1, 1, 2, 1, 3, 0}, []int64{6}, false},
		{1, 0, 6, []int64{1, 1, 1, 1, 4, 3, 2, 2}, []int64{6, 5}, false},
		{1, 0, 7, []int64{1, 1, 1, 1, 2, 3, 2, 3}, []int64{7, 6, 5, 4}, true},
		{1, 0, 6, []int64{3, 3, 3, 3, 3, 3, 3, 1}, []int64{6, 5, 4}, false},
		{1, 0, 6, []int64{3, 3, 3, 3, 3, 3, 3, 0}, []int64{6, 5, 4}, true},
		{1, 0, 4, []int64{2, 2, 2, 2, 2, 0, 0, 2}, []int64{4}, false},
		{1, 0, 4, []int64{2, 2, 2, 2, 3, 0, 0, 0}, []int64{4}, true},
		{1, 0, 3, []int64{2, 2, 2, 2, 2, 2, 2, 2}, nil, false},
		{1, 0, 0, []int64{3, 2, 2, 2, 2, 2, 2, 2}, nil, false},
		{1, 0, 0, []int64{3, 2, 2, 2, 0, 0, 0, 0}, nil, false},
		{1, 1, 3, []int64{2, 3, 2, 3, 2, 2, 2, 2}, []int64{3, 2, 1, 0}, true},
		{1, 1, 1, []int64{3, 2, 0, 0, 3, 3, 3, 3}, []int64{1, 0}, true},
		{1, 1, 1, []int64{3, 2, 0, 1, 3, 3, 3, 3}, []int64{1, 0}, false},
		{1, 1, 0, []int64{2, 2, 2, 2, 2, 2, 2, 2}, []int64{0}, false},
		{1, 1, 2, []int64{2, 1, 3, 0, 2, 2, 2, 2}, []int64{2}, false},
		{1, 1, 4, []int64{2, 2, 2, 2, 2, 2, 2, 2}, nil, false},
		{1, 1, 7, []int64{2, 2, 2, 2, 2, 2, 2, 3}, nil, false},

		{2, 0, 1, []int64{2, 1, 0, 0, 0, 3, 4, 0}, []int64{1, 6}, false},
		{2, 0, 1, []int64{2, 1, 0, 0, 0, 0, 4, 0}, []int64{1, 6}, true},
		{2, 0, 1, []int64{2, 1, 0, 0, 9, 9, 0, 9}, nil, false},
		{2, 0, 1, []int64{2, 2, 0, 0, 9, 9, 9, 9}, nil, false},
		{2, 0, 1, []int64{2, 3, 0, 0, 0, 0, 9, 0}, nil, false},
		{2, 0, 6, []int64{1, 1, 1, 1, 1, 1, 1, 1}, nil, false},
		{2, 0, 0, []int64{1, 0, 0, 0, 0, 0, 0, 1}, []int64{0, 7}, true},
		{2, 0, 3, []int64{0, 0, 0, 1, 96 - 2, 1, 0, 0}, []int64{3, 4}, false},
		{2, 1, 4, []int64{0, 0, 1, 5, 1, 0, 0, 0}, []int64{4, 3}, false},
		{2, 1, 4, []int64{0, 0, 0, 5, 1, 7, 7, 7}, []int64{4, 3}, true},
		{2, 1, 7, []int64{4, 1, 0, 0, 0, 0, 0, 1}, []int64{7, 0}, false},
		{2, 1, 7, []int64{0, 1, 1, 1, 0, 0, 0, 1}, nil, false},
		{2, 1, 7, []int64{4, 0, 0, 0, 0, 0, 0, 2}, nil, false},
		{2, 1, 3, []int64{1, 1, 1, 1, 1, 1, 1, 1}, nil, false},

		{3, 0, 6, []int64{2, 2, 2, 2, 2, 2, 2, 2}, []int64{6}, false},
		{3, 0, 6, []int64{2, 2, 2, 2, 0, 0, 2, 0}, []int64{6}, true},
		{3, 0, 6, []int64{2, 2, 2, 2, 0, 0, 1, 0}, nil, false},
		{3, 0, 6, []int64{2, 2, 2, 2, 0, 0, 3, 0}, nil, false},
		{3, 0, 7, []int64{2, 2, 2, 2, 2, 2, 4, 4}, []int64{7}, false},
		{3, 0, 4, []int64{0, 0, 0, 0, 96, 0, 0, 0}, []int64{4}, true},
		{3, 0, 3, []int64{2, 2, 2, 2, 2, 2, 2, 2}, nil, false},
		{3, 1, 3, []int64{2, 2, 2, 6, 2, 2, 2, 2}, []int64{3}, false},
		{3, 1, 0, []int64{4, 0, 0, 0, 2, 2, 2, 2}, []int64{0}, true},
		{3, 1, 4, []int64{2, 2, 2, 2, 2, 2, 2, 2}, nil, false},
	}
}

func TestCapturesByHand(t *testing.T) {
	for _, c := range handCases() {
		for slam := range int64(3) {
			r := impl.Rules{Pits: 4, Seeds: 1, Capture: c.capture, Slam: slam}
			want := expectedCapture{pits: c.want, slam: c.slam, after: sownOf(c.last, []int64{0, 0}, slices.Clone(c.pits)...)}
			if c.slam && slam == impl.SlamNothing {
				want.pits = nil
			}
			for _, pit := range want.pits {
				want.gain += c.pits[pit]
				want.after.Pits[pit] = 0
			}
			want.after.Stores[c.player] = want.gain
			checkCapture(t, r, sownOf(c.last, []int64{0, 0}, c.pits...), c.player, want)
		}
	}
}

// TestNoCaptureFromStore has a last seed in the store, with pits of each kind on both sides.
func TestNoCaptureFromStore(t *testing.T) {
	for pits := int64(2); pits <= 8; pits++ {
		for _, r := range captureRules(pits, true) {
			for _, n := range []int64{0, 1, 2, 3, 4} {
				for player := range int64(2) {
					s := sownOf(-1, []int64{5, 5}, slices.Repeat([]int64{n}, int(2*pits))...)
					s.Stores[player] = 1
					checkCapture(t, r, s, player, expectedCapture{after: s})
				}
			}
		}
	}
}

// TestLongWayBack takes all pits of the other player up to Last, and none of the own ones before them, though they have as many seeds.
func TestLongWayBack(t *testing.T) {
	for pits := int64(2); pits <= 8; pits++ {
		for _, r := range captureRules(pits, false)[3:6] {
			for player := range int64(2) {
				others := sidePits(r, 1-player)
				for i, last := range others {
					s := sownOf(last, []int64{0, 0}, slices.Repeat([]int64{2}, int(2*pits))...)
					want := expectedCapture{slam: i == len(others)-1, after: cloneSown(s)}
					if !want.slam || r.Slam != impl.SlamNothing {
						want.pits = slices.Clone(others[:i+1])
						slices.Reverse(want.pits)
						want.gain = 2 * int64(i+1)
						clear(want.after.Pits[others[0]:][:i+1])
						want.after.Stores[player] = want.gain
					}
					checkCapture(t, r, s, player, want)
				}
			}
		}
	}
}

// eachLast calls do with each Last for which a Sown of these pits and stores is valid.
func eachLast(r impl.Rules, p impl.Position, do func(s impl.Sown)) {
	for last := int64(-1); last < 2*r.Pits; last++ {
		if last >= 0 && p.Pits[last] > 0 || last < 0 && r.Stores && p.Stores[p.Player] > 0 {
			do(sownOf(last, p.Stores, p.Pits...))
		}
	}
}

// TestAllCapturesOfASmallBoard tries pits with 0 to 4 seeds.
func TestAllCapturesOfASmallBoard(t *testing.T) {
	rules := append(captureRules(2, false), captureRules(2, true)...)
	slams, captures := 0, 0
	for code := range int64(5 * 5 * 5 * 5) {
		pits := []int64{code % 5, code / 5 % 5, code / 25 % 5, code / 125}
		for player := range int64(2) {
			p := positionOf(player, []int64{3, 1}, pits...)
			for _, r := range rules {
				eachLast(r, p, func(s impl.Sown) {
					want := expectCapture(r, s, player)
					checkCapture(t, r, s, player, want)
					slams += int(bit(want.slam))
					captures += int(bit(want.gain > 0))
				})
			}
		}
	}
	if slams < 1000 || captures < 1000 {
		t.Errorf("only %d slams and %d captures were tried", slams, captures)
	}
}

// thinSides has positions with few seeds, often all of a side in one pit or in two.
func thinSides(r impl.Rules) []impl.Position {
	random := rand.New(rand.NewSource(60 + r.Pits))
	var all []impl.Position
	for range 30 {
		pits := make([]int64, 2*r.Pits)
		for range 1 + random.Intn(5) {
			pits[random.Intn(len(pits))] = 1 + random.Int63n(4)
		}
		all = append(all, positionOf(random.Int63n(2), []int64{random.Int63n(3), random.Int63n(3)}, pits...))
	}
	return all
}

func TestCaptures(t *testing.T) {
	for _, r := range allCaptureRules() {
		for _, p := range slices.Concat(validPositions(r), fullPositions(r), thinSides(r)) {
			eachLast(r, p, func(s impl.Sown) {
				checkCapture(t, r, s, p.Player, expectCapture(r, s, p.Player))
			})
		}
	}
}

// TestCapturesOfOtherRules tries fields that have nothing to do with captures.
func TestCapturesOfOtherRules(t *testing.T) {
	r := impl.Rules{Pits: 4, Seeds: 1, Capture: impl.CapTwoThree}
	s := sownOf(6, []int64{0, 0}, 1, 1, 1, 1, 4, 3, 2, 2)
	want := expectCapture(r, s, 0)
	for bits := range 32 {
		r.Stores, r.Skip, r.Relay = bits&1 != 0, bits&2 != 0, bits&4 != 0
		r.Feed, r.Again = bits&8 != 0, bits&1 != 0 && bits&16 != 0
		r.Seeds = 1 + int64(bits%6)
		checkCapture(t, r, s, 0, want)
	}
}

// TestCapturesOnTheTurnedBoard exchanges the players.
func TestCapturesOnTheTurnedBoard(t *testing.T) {
	for _, r := range allCaptureRules() {
		turn := func(place int64) int64 {
			if place < 0 {
				return place
			}
			return (place + r.Pits) % (2 * r.Pits)
		}
		for _, p := range thinSides(r) {
			eachLast(r, p, func(s impl.Sown) {
				q := turned(p)
				other := sownOf(turn(s.Last), q.Stores, q.Pits...)
				mine, one := impl.CapturePits(r, s, p.Player)
				theirs, two := impl.CapturePits(r, other, q.Player)
				for i, pit := range theirs {
					theirs[i] = turn(pit)
				}
				if !slices.Equal(mine, theirs) || one != impl.OK || two != impl.OK {
					t.Fatalf("%+v: %+v has %v, %d, on the turned board %v, %d", r, s, mine, one, theirs, two)
				}
			})
		}
	}
}

// TestCapturesAfterSowing captures after moves of both players, by the standard games and by all kinds of sowing.
func TestCapturesAfterSowing(t *testing.T) {
	rules := allSowingRules()
	for i := range rules {
		rules[i].Capture, rules[i].Slam = int64(i%4), int64(i/4%3)
	}
	for _, name := range impl.StandardNames() {
		rules = append(rules, standardTable()[name])
	}
	for _, r := range rules {
		for _, p := range slices.Concat(validPositions(r), fullPositions(r), thinSides(r)) {
			for move := range r.Pits {
				s, code := impl.SowMove(r, p, move)
				if code == impl.OK {
					checkCapture(t, r, s, p.Player, expectCapture(r, s, p.Player))
				}
			}
		}
	}
}

func TestLapsOfValidSown(t *testing.T) {
	for _, r := range allCaptureRules() {
		s := sownOf(r.Pits, []int64{0, 0}, slices.Repeat([]int64{2}, int(2*r.Pits))...)
		for _, laps := range []int64{1, 2, 50, 99, 100} {
			s.Laps = laps
			checkCapture(t, r, s, 0, expectCapture(r, s, 0))
		}
		for _, laps := range []int64{math.MinInt64, math.MinInt64 + 1, -100, -1, 0, 101, 102, 256 + 1, 1<<32 + 1, math.MaxInt64 - 1, math.MaxInt64} {
			s.Laps = laps
			checkNoCapture(t, r, s, 0)
		}
	}
}

func TestLastOfValidSown(t *testing.T) {
	for _, r := range allCaptureRules() {
		size := 2 * r.Pits
		for player := range int64(2) {
			s := sownOf(0, []int64{2, 2}, slices.Repeat([]int64{2}, int(size))...)
			for _, last := range []int64{math.MinInt64, math.MinInt64 + 1, -100, -3, -2, size, size + 1, size + 2, 256, 1 << 32, math.MaxInt64 - 1, math.MaxInt64} {
				s.Last = last
				checkNoCapture(t, r, s, player)
			}
			for last := range size {
				s.Last = last
				checkCapture(t, r, s, player, expectCapture(r, s, player))
				empty := cloneSown(s)
				empty.Pits[last] = 0
				checkNoCapture(t, r, empty, player)
			}
			checkStoreAsLast(t, r, cloneSown(s), player)
		}
	}
}

// checkStoreAsLast checks stores with and without seeds as the place of the last seed.
func checkStoreAsLast(t *testing.T, r impl.Rules, s impl.Sown, player int64) {
	t.Helper()
	s.Last = -1
	s.Stores[player], s.Stores[1-player] = 1, 0
	if r.Stores {
		checkCapture(t, r, s, player, expectedCapture{after: s})
	} else {
		checkNoCapture(t, r, s, player)
	}
	s.Stores[player], s.Stores[1-player] = 0, 1
	checkNoCapture(t, r, s, player)
}

func TestPlayersOfValidSown(t *testing.T) {
	for _, r := range allCaptureRules() {
		for _, last := range []int64{0, r.Pits - 1, r.Pits, 2*r.Pits - 1} {
			s := sownOf(last, []int64{1, 1}, slices.Repeat([]int64{2}, int(2*r.Pits))...)
			for _, player := range []int64{0, 1} {
				checkCapture(t, r, s, player, expectCapture(r, s, player))
			}
			for _, player := range append([]int64{2, 3, -2}, extremes...) {
				checkNoCapture(t, r, s, player)
			}
		}
		s := sownOf(-1, []int64{1, 1}, slices.Repeat([]int64{2}, int(2*r.Pits))...)
		for _, player := range append([]int64{2, 3, -2}, extremes...) {
			checkNoCapture(t, r, s, player)
		}
	}
}

// TestInvalidSown tries positions and rules that are not valid, with each place as the last one.
func TestInvalidSown(t *testing.T) {
	invalidPairs(func(r impl.Rules, p impl.Position) {
		for last := int64(-1); last < 6; last++ {
			checkNoCapture(t, r, sownOf(last, p.Stores, p.Pits...), p.Player)
		}
	})
	for _, r := range invalidRules() {
		for _, pits := range []int64{0, 1, 2, 3, 9} {
			s := sownOf(0, []int64{1, 1}, slices.Repeat([]int64{2}, int(2*pits))...)
			for last := int64(-1); last <= 2*pits; last++ {
				s.Last = last
				checkNoCapture(t, r, s, 0)
				checkNoCapture(t, r, s, 1)
			}
		}
		for _, n := range extremes {
			checkNoCapture(t, r, impl.Sown{Last: n, Laps: n}, n)
		}
	}
}

// TestSeedsOfValidSown reaches the greatest number of seeds, and exceeds it by one.
func TestSeedsOfValidSown(t *testing.T) {
	for _, r := range allCaptureRules() {
		size := 2 * r.Pits
		for player := range int64(2) {
			for place := range size + 2 {
				list := make([]int64, size+2)
				list[r.Pits] = 2
				list[place] += 94
				s := sownOf(r.Pits, list[size:], list[:size:size]...)
				checkCapture(t, r, s, player, expectCapture(r, s, player))
				list[(place+1)%(size+2)]++
				checkNoCapture(t, r, s, player)
			}
		}
	}
}

func TestCapturesLeaveTheirArguments(t *testing.T) {
	for _, r := range allCaptureRules() {
		for _, p := range slices.Concat(validPositions(r), invalidPositions(r), thinSides(r)) {
			q, unchanged := spacious(p)
			for last := int64(-1); last <= 2*r.Pits; last++ {
				resultsOfCaptures(r, sownOf(last, q.Stores, q.Pits...), p.Player, "even")
			}
			if !unchanged() {
				t.Fatalf("%+v: %+v was changed", r, p)
			}
		}
	}
}

func TestCapturesAreNewMemory(t *testing.T) {
	for _, r := range allCaptureRules() {
		for _, p := range thinSides(r) {
			q, unchanged := spacious(p)
			eachLast(r, q, func(s impl.Sown) {
				s = impl.Sown{Pits: q.Pits, Stores: q.Stores, Last: s.Last, Laps: s.Laps}
				first, _ := impl.TakeCaptures(r, s, p.Player)
				second, _ := impl.TakeCaptures(r, s, p.Player)
				want := expectCapture(r, s, p.Player)
				ruinList(first.Pits)
				ruinList(first.Stores)
				pits, _ := impl.CapturePits(r, s, p.Player)
				ruinList(pits)
				again, _ := impl.CapturePits(r, s, p.Player)
				if !unchanged() || !equalSown(second, want.after) || !slices.Equal(again, want.pits) {
					t.Fatalf("%+v: what is captured from %+v shares memory", r, s)
				}
				ruinList(second.Pits)
				if !slices.Equal(second.Stores, want.after.Stores) {
					t.Fatalf("%+v: what is captured from %+v has pits and stores in the same memory", r, s)
				}
			})
		}
	}
}
