package tests

import (
	"math"
	"slices"
	"testing"

	"loop.example/g00926/impl"
)

// extremes are numbers that are no pit, player or move of any rules.
var extremes = []int64{math.MinInt64, math.MinInt64 + 1, -100, -1, 16, 100, 1 << 32, math.MaxInt64 - 1, math.MaxInt64}

func standardTable() map[string]impl.Rules {
	return map[string]impl.Rules{
		"kalah": {Pits: 6, Seeds: 4, Stores: true, Again: true, Capture: 2},
		"mini":  {Pits: 3, Seeds: 2, Feed: true, Capture: 1},
		"oware": {Pits: 6, Seeds: 4, Skip: true, Feed: true, Capture: 1, Slam: 2},
		"relay": {Pits: 4, Seeds: 2, Relay: true, Capture: 2},
	}
}

func invalidRules() []impl.Rules {
	good := impl.Rules{Pits: 3, Seeds: 2, Stores: true, Again: true}
	bad := []impl.Rules{{}}
	add := func(change func(r *impl.Rules)) {
		r := good
		change(&r)
		bad = append(bad, r)
	}
	for _, n := range []int64{math.MinInt64, -3, 0, 1, 9, math.MaxInt64} {
		add(func(r *impl.Rules) { r.Pits = n })
	}
	for _, n := range []int64{math.MinInt64, -2, 0, 7, math.MaxInt64} {
		add(func(r *impl.Rules) { r.Seeds = n })
	}
	for _, n := range []int64{math.MinInt64, -1, 4, math.MaxInt64} {
		add(func(r *impl.Rules) { r.Capture = n })
	}
	for _, n := range []int64{math.MinInt64, -1, 3, math.MaxInt64} {
		add(func(r *impl.Rules) { r.Slam = n })
	}
	add(func(r *impl.Rules) { r.Stores = false })
	return bad
}

// eachRules calls do with all rules that are valid.
func eachRules(do func(r impl.Rules)) {
	for pits := int64(2); pits <= 8; pits++ {
		for seeds := int64(1); seeds <= 6; seeds++ {
			for kinds := range int64(12) {
				for bits := range 32 {
					r := impl.Rules{Pits: pits, Seeds: seeds, Capture: kinds % 4, Slam: kinds / 4}
					r.Stores, r.Skip, r.Relay = bits&1 != 0, bits&2 != 0, bits&4 != 0
					r.Feed, r.Again = bits&8 != 0, bits&16 != 0
					if r.Stores || !r.Again {
						do(r)
					}
				}
			}
		}
	}
}

func TestConstantsOfRules(t *testing.T) {
	got := []int64{
		impl.MinPits, impl.MaxPits, impl.MaxStart,
		impl.CapNone, impl.CapTwoThree, impl.CapCross, impl.CapEven,
		impl.SlamTake, impl.SlamForbid, impl.SlamNothing,
	}
	if want := []int64{2, 8, 6, 0, 1, 2, 3, 0, 1, 2}; !slices.Equal(got, want) {
		t.Errorf("constants are %v, want %v", got, want)
	}
}

func TestValidRules(t *testing.T) {
	number := 0
	eachRules(func(r impl.Rules) {
		number++
		if !impl.ValidRules(r) {
			t.Errorf("valid rules are refused: %+v", r)
		}
	})
	if number != 7*6*12*24 {
		t.Fatalf("%d rules were tried", number)
	}
	for _, r := range invalidRules() {
		if impl.ValidRules(r) {
			t.Errorf("invalid rules are accepted: %+v", r)
		}
	}
}

func TestStandardNames(t *testing.T) {
	want := []string{"kalah", "mini", "oware", "relay"}
	first := impl.StandardNames()
	second := impl.StandardNames()
	if !slices.Equal(first, want) {
		t.Fatalf("StandardNames() = %q, want %q", first, want)
	}
	first[0] = "changed"
	if !slices.Equal(second, want) || !slices.Equal(impl.StandardNames(), want) {
		t.Error("a result of StandardNames changed with another one")
	}
	if _, code := impl.StandardRules("kalah"); code != impl.OK {
		t.Error("a change of a result of StandardNames removed a game")
	}
}

func TestStandardRules(t *testing.T) {
	for name, want := range standardTable() {
		if got, code := impl.StandardRules(name); got != want || code != impl.OK {
			t.Errorf("StandardRules(%q) = %+v, %d, want %+v", name, got, code, want)
		}
		if got, code := impl.StandardName(want); got != name || code != impl.OK {
			t.Errorf("StandardName(%+v) = %q, %d, want %q", want, got, code, name)
		}
	}
	for _, name := range []string{"", "chess", "Kalah", "mini ", " mini", "min", "minis", "mini\x00", "\xff"} {
		if got, code := impl.StandardRules(name); got != (impl.Rules{}) || code != impl.ErrNotFound {
			t.Errorf("StandardRules(%q) = %+v, %d", name, got, code)
		}
	}
}

func TestStandardNameOfOtherRules(t *testing.T) {
	named := 0
	eachRules(func(r impl.Rules) {
		name, code := impl.StandardName(r)
		if code == impl.OK && standardTable()[name] == r {
			named++
		} else if name != "" || code != impl.ErrNotFound {
			t.Errorf("StandardName(%+v) = %q, %d", r, name, code)
		}
	})
	if named != 4 {
		t.Errorf("%d rules have a name, want 4", named)
	}
	for _, r := range invalidRules() {
		if name, code := impl.StandardName(r); name != "" || code != impl.ErrNotFound {
			t.Errorf("StandardName(%+v) = %q, %d, want ErrNotFound", r, name, code)
		}
	}
}

func TestTotalSeeds(t *testing.T) {
	cases := []struct{ pits, seeds, want int64 }{
		{3, 2, 12}, {6, 4, 48}, {4, 2, 16}, {2, 1, 4}, {8, 6, 96}, {2, 6, 24}, {8, 1, 16},
	}
	for _, c := range cases {
		got, code := impl.TotalSeeds(impl.Rules{Pits: c.pits, Seeds: c.seeds})
		if got != c.want || code != impl.OK {
			t.Errorf("TotalSeeds with %d pits of %d = %d, %d, want %d", c.pits, c.seeds, got, code, c.want)
		}
	}
	for _, r := range invalidRules() {
		if got, code := impl.TotalSeeds(r); got != 0 || code != impl.ErrInvalid {
			t.Errorf("TotalSeeds(%+v) = %d, %d, want ErrInvalid", r, got, code)
		}
	}
}

type pitFunction struct {
	name string
	call func(r impl.Rules, pit int64) (int64, int64)
}

func pitFunctions() []pitFunction {
	return []pitFunction{
		{"OwnerOf", impl.OwnerOf}, {"NextPit", impl.NextPit},
		{"OppositePit", impl.OppositePit}, {"MoveOfPit", impl.MoveOfPit},
	}
}

func TestPitsOfMini(t *testing.T) {
	mini := standardTable()["mini"]
	want := map[string][]int64{
		"OwnerOf":     {0, 0, 0, 1, 1, 1},
		"NextPit":     {1, 2, 3, 4, 5, 0},
		"OppositePit": {5, 4, 3, 2, 1, 0},
		"MoveOfPit":   {0, 1, 2, 0, 1, 2},
	}
	for _, f := range pitFunctions() {
		for pit, w := range want[f.name] {
			if got, code := f.call(mini, int64(pit)); got != w || code != impl.OK {
				t.Errorf("%s(mini, %d) = %d, %d, want %d", f.name, pit, got, code, w)
			}
		}
	}
	for move := range int64(6) {
		if got, code := impl.PitOfMove(mini, move/3, move%3); got != move || code != impl.OK {
			t.Errorf("PitOfMove(mini, %d, %d) = %d, %d, want %d", move/3, move%3, got, code, move)
		}
	}
}

func TestExampleOfMini(t *testing.T) {
	mini, _ := impl.StandardRules("mini")
	if pit, code := impl.PitOfMove(mini, 1, 1); pit != 4 || code != impl.OK {
		t.Errorf("the pit of move 1 of player 1 is %d, %d, want 4", pit, code)
	}
	if pit, code := impl.OppositePit(mini, 4); pit != 1 || code != impl.OK {
		t.Errorf("the opposite pit of 4 is %d, %d, want 1", pit, code)
	}
}

// TestErrorsOfPits checks the pits just behind both ends of the board, and that invalid rules are reported before them.
func TestErrorsOfPits(t *testing.T) {
	for _, f := range pitFunctions() {
		eachRules(func(r impl.Rules) {
			for _, pit := range append([]int64{2 * r.Pits}, extremes...) {
				if got, code := f.call(r, pit); got != 0 || code != impl.ErrRange {
					t.Errorf("%s(%+v, %d) = %d, %d, want ErrRange", f.name, r, pit, got, code)
				}
			}
		})
		for _, r := range invalidRules() {
			for _, pit := range append([]int64{0, 3}, extremes...) {
				if got, code := f.call(r, pit); got != 0 || code != impl.ErrInvalid {
					t.Errorf("%s(%+v, %d) = %d, %d, want ErrInvalid", f.name, r, pit, got, code)
				}
			}
		}
	}
}

func TestErrorsOfMoves(t *testing.T) {
	check := func(r impl.Rules, player, move, want int64) {
		if got, code := impl.PitOfMove(r, player, move); got != 0 || code != want {
			t.Errorf("PitOfMove(%+v, %d, %d) = %d, %d, want code %d", r, player, move, got, code, want)
		}
	}
	eachRules(func(r impl.Rules) {
		for _, n := range extremes {
			check(r, 0, n, impl.ErrRange)
			check(r, 1, n, impl.ErrRange)
			check(r, n, 0, impl.ErrRange)
			check(r, n, n, impl.ErrRange)
		}
		check(r, 0, r.Pits, impl.ErrRange)
		check(r, 1, r.Pits, impl.ErrRange)
		check(r, 2, 0, impl.ErrRange)
		check(r, 2, r.Pits, impl.ErrRange)
	})
	for _, r := range invalidRules() {
		for _, n := range append([]int64{0, 1}, extremes...) {
			check(r, n, n, impl.ErrInvalid)
			check(r, 0, n, impl.ErrInvalid)
			check(r, n, 0, impl.ErrInvalid)
		}
	}
}

// TestPitsFollowOneAnother walks around the board of all rules: promise 2.
func TestPitsFollowOneAnother(t *testing.T) {
	eachRules(func(r impl.Rules) {
		pit := int64(0)
		for step := range 2 * r.Pits {
			if pit != step {
				t.Errorf("%+v: the pit behind %d pits is %d", r, step, pit)
			}
			next, code := impl.NextPit(r, pit)
			if code != impl.OK {
				t.Fatalf("%+v: NextPit(%d) has the code %d", r, pit, code)
			}
			pit = next
		}
		if pit != 0 {
			t.Errorf("%+v: behind the last pit follows %d", r, pit)
		}
	})
}

// TestMovesStandForPits checks that moves and the pits of their players are one to one: promise 2.
func TestMovesStandForPits(t *testing.T) {
	eachRules(func(r impl.Rules) {
		for pit := range 2 * r.Pits {
			owner, one := impl.OwnerOf(r, pit)
			move, two := impl.MoveOfPit(r, pit)
			back, three := impl.PitOfMove(r, owner, move)
			if one != impl.OK || two != impl.OK || three != impl.OK || back != pit {
				t.Errorf("%+v: pit %d is that of move %d of player %d, which is %d", r, pit, move, owner, back)
			}
			if owner != 0 && pit < r.Pits || owner != 1 && pit >= r.Pits {
				t.Errorf("%+v: pit %d belongs to %d", r, pit, owner)
			}
		}
	})
}

func TestOppositePits(t *testing.T) {
	eachRules(func(r impl.Rules) {
		for pit := range 2 * r.Pits {
			other, one := impl.OppositePit(r, pit)
			back, two := impl.OppositePit(r, other)
			if one != impl.OK || two != impl.OK || other != 2*r.Pits-1-pit || back != pit {
				t.Errorf("%+v: the opposite pit of %d is %d, whose opposite is %d", r, pit, other, back)
			}
			owner, _ := impl.OwnerOf(r, pit)
			rival, _ := impl.OwnerOf(r, other)
			if owner == rival {
				t.Errorf("%+v: the pits %d and %d have one owner", r, pit, other)
			}
		}
	})
}
