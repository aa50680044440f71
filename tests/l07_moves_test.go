package tests

import (
	"math"
	"math/rand"
	"slices"
	"strings"
	"testing"

	"loop.example/g00926/impl"
)

// eachMoveRules calls do with all rules for a number of pits, but for the seeds at the beginning, which have nothing to do with moves.
func eachMoveRules(pits int64, do func(r impl.Rules)) {
	for _, r := range sowingRules(pits) {
		for kinds := range int64(12) {
			for bits := range 4 {
				r.Capture, r.Slam = kinds%4, kinds/4
				r.Feed, r.Again = bits&1 != 0, bits&2 != 0
				if r.Stores || !r.Again {
					do(r)
				}
			}
		}
	}
}

// allMoveRules has these rules for each number of pits.
func allMoveRules() []impl.Rules {
	var all []impl.Rules
	for pits := int64(2); pits <= 8; pits++ {
		eachMoveRules(pits, func(r impl.Rules) { all = append(all, r) })
	}
	return all
}

// someMoveRules has a few rules of each kind.
func someMoveRules() []impl.Rules {
	var some []impl.Rules
	for i, r := range allMoveRules() {
		if i%23 == 0 {
			some = append(some, r)
		}
	}
	for _, name := range impl.StandardNames() {
		some = append(some, standardTable()[name])
	}
	return some
}

// hungryPositions has positions in which the pits of the player who is not to move are empty.
func hungryPositions(r impl.Rules) []impl.Position {
	random := rand.New(rand.NewSource(70 + r.Pits))
	var all []impl.Position
	for i := range 12 {
		p := positionOf(int64(i%2), []int64{random.Int63n(3), random.Int63n(3)}, make([]int64, 2*r.Pits)...)
		for range i / 2 {
			p.Pits[p.Player*r.Pits+random.Int63n(r.Pits)] += 1 + random.Int63n(2+4*r.Pits)%12
		}
		all = append(all, p)
	}
	return all
}

func movePositions(r impl.Rules) []impl.Position {
	return slices.Concat(thinSides(r), hungryPositions(r), fullPositions(r)[:8])
}

func emptySide(r impl.Rules, pits []int64, player int64) bool {
	return !slices.ContainsFunc(sidePits(r, player), func(pit int64) bool { return pits[pit] > 0 })
}

// expectTurn has what must come of a move in a valid position, or its fault.
func expectTurn(r impl.Rules, p impl.Position, move int64) (impl.Result, int64) {
	if p.Pits[p.Player*r.Pits+move] == 0 {
		return impl.Result{}, impl.ErrState
	}
	sown := expectMove(r, p, move)
	if sown.endless {
		return impl.Result{}, impl.ErrEndless
	}
	taken := expectCapture(r, sown.all, p.Player)
	if r.Slam == 1 && taken.slam {
		return impl.Result{}, impl.ErrIllegal
	}
	other := 1 - p.Player
	if r.Feed && emptySide(r, p.Pits, other) && emptySide(r, taken.after.Pits, other) {
		return impl.Result{}, impl.ErrIllegal
	}
	want := impl.Result{Move: move, Next: positionOf(other, taken.after.Stores, taken.after.Pits...)}
	if r.Again && sown.all.Last == -1 {
		want.Again, want.Next.Player = true, p.Player
	}
	for _, place := range sown.path {
		want.Gain += bit(place == -1)
	}
	want.Gain += taken.gain
	return want, impl.OK
}

// expectTurns has the faults of all moves of a valid position, and what its legal moves lead to.
func expectTurns(r impl.Rules, p impl.Position) ([]int64, []impl.Result) {
	var faults []int64
	var results []impl.Result
	for move := range r.Pits {
		result, fault := expectTurn(r, p, move)
		faults = append(faults, fault)
		if fault == impl.OK {
			results = append(results, result)
		}
	}
	return faults, results
}

func equalResults(a, b []impl.Result) bool {
	return slices.EqualFunc(a, b, func(a, b impl.Result) bool {
		return a.Move == b.Move && a.Gain == b.Gain && a.Again == b.Again && sameNumbers(a.Next, b.Next)
	})
}

func cloneResults(list []impl.Result) []impl.Result {
	list = slices.Clone(list)
	for i := range list {
		list[i].Next = clonePosition(list[i].Next)
	}
	return list
}

// checkTurn checks all that the functions of the chapter return for a legal move.
func checkTurn(t *testing.T, r impl.Rules, p impl.Position, want impl.Result) {
	t.Helper()
	if code := impl.MoveFault(r, p, want.Move); code != impl.OK {
		t.Fatalf("%+v: MoveFault(%+v, %d) = %d", r, p, want.Move, code)
	}
	next, gain, code := impl.MakeMove(r, p, want.Move)
	if !sameNumbers(next, want.Next) || gain != want.Gain || code != impl.OK {
		t.Fatalf("%+v: MakeMove(%+v, %d) = %+v, %d, %d, want %+v", r, p, want.Move, next, gain, code, want)
	}
	if got := impl.MovesAgain(r, p, want.Move); got != want.Again {
		t.Fatalf("%+v: MovesAgain(%+v, %d) = %v", r, p, want.Move, got)
	}
}

// checkFault checks that a move is not legal.
func checkFault(t *testing.T, r impl.Rules, p impl.Position, move, want int64) {
	t.Helper()
	if code := impl.MoveFault(r, p, move); code != want {
		t.Fatalf("%+v: MoveFault(%+v, %d) = %d, want %d", r, p, move, code, want)
	}
	if next, gain, code := impl.MakeMove(r, p, move); !isZeroPosition(next) || gain != 0 || code != want {
		t.Fatalf("%+v: MakeMove(%+v, %d) = %+v, %d, %d, want code %d", r, p, move, next, gain, code, want)
	}
	if impl.MovesAgain(r, p, move) {
		t.Fatalf("%+v: MovesAgain(%+v, %d) with code %d", r, p, move, want)
	}
}

// checkGreedy finds the best move in its own way: it goes through gains that fall.
func checkGreedy(t *testing.T, r impl.Rules, p impl.Position, results []impl.Result) {
	t.Helper()
	move, gain, code := impl.GreedyMove(r, p)
	if len(results) == 0 {
		if move != 0 || gain != 0 || code != impl.ErrNotFound {
			t.Fatalf("%+v: GreedyMove(%+v) = %d, %d, %d, want ErrNotFound", r, p, move, gain, code)
		}
		return
	}
	for most := int64(96); most >= 0; most-- {
		at := slices.IndexFunc(results, func(result impl.Result) bool { return result.Gain == most })
		if at < 0 {
			continue
		}
		if move != results[at].Move || gain != most || code != impl.OK {
			t.Fatalf("%+v: GreedyMove(%+v) = %d, %d, %d, want %d, %d", r, p, move, gain, code, results[at].Move, most)
		}
		return
	}
	t.Fatalf("%+v: no gain of %+v can be expected", r, results)
}

// checkMoves checks all functions of the chapter in a valid position.
func checkMoves(t *testing.T, r impl.Rules, p impl.Position, faults []int64, results []impl.Result) {
	t.Helper()
	var legal []int64
	for _, want := range results {
		legal = append(legal, want.Move)
		checkTurn(t, r, p, want)
	}
	for move, fault := range faults {
		if fault != impl.OK {
			checkFault(t, r, p, int64(move), fault)
		} else if !slices.Contains(legal, int64(move)) {
			t.Fatalf("%+v: %+v: move %d is expected to be legal, and has no result", r, p, move)
		}
	}
	if got, code := impl.LegalMoves(r, p); !slices.Equal(got, legal) || code != impl.OK {
		t.Fatalf("%+v: LegalMoves(%+v) = %v, %d, want %v", r, p, got, code, legal)
	}
	if got := impl.CanMove(r, p); got != (len(legal) > 0) {
		t.Fatalf("%+v: CanMove(%+v) = %v", r, p, got)
	}
	if got, code := impl.ResultsOf(r, p); !equalResults(got, results) || code != impl.OK {
		t.Fatalf("%+v: ResultsOf(%+v) = %+v, %d, want %+v", r, p, got, code, results)
	}
	if got, want := impl.MustFeed(r, p), r.Feed && emptySide(r, p.Pits, 1-p.Player); got != want {
		t.Fatalf("%+v: MustFeed(%+v) = %v", r, p, got)
	}
	checkGreedy(t, r, p, results)
}

// checkNoMoves checks that a position is not valid.
func checkNoMoves(t *testing.T, r impl.Rules, p impl.Position) {
	t.Helper()
	for _, move := range []int64{math.MinInt64, -1, 0, 1, 2, r.Pits - 1, r.Pits, math.MaxInt64} {
		checkFault(t, r, p, move, impl.ErrInvalid)
	}
	if got, code := impl.LegalMoves(r, p); len(got) != 0 || code != impl.ErrInvalid {
		t.Fatalf("%+v: LegalMoves(%+v) = %v, %d", r, p, got, code)
	}
	if got, code := impl.ResultsOf(r, p); len(got) != 0 || code != impl.ErrInvalid {
		t.Fatalf("%+v: ResultsOf(%+v) = %v, %d", r, p, got, code)
	}
	if move, gain, code := impl.GreedyMove(r, p); move != 0 || gain != 0 || code != impl.ErrInvalid {
		t.Fatalf("%+v: GreedyMove(%+v) = %d, %d, %d", r, p, move, gain, code)
	}
	if impl.CanMove(r, p) || impl.MustFeed(r, p) {
		t.Fatalf("%+v: a player can move or must feed in %+v", r, p)
	}
}

// turnCase has, for each move, the name of its fault, or its gain and the position after it.
type turnCase struct {
	rules string
	text  string
	want  []string
}

// readTurnCase returns what checkMoves needs.
func readTurnCase(t *testing.T, c turnCase) (impl.Rules, impl.Position, []int64, []impl.Result) {
	t.Helper()
	r, problems, code := impl.CheckRules(c.rules + " seeds=1")
	p, ok := impl.ReadPosition(r, c.text)
	if len(problems) > 0 || code != impl.OK || !ok || int64(len(c.want)) != r.Pits {
		t.Fatalf("%+v cannot be read", c)
	}
	faultNames := map[string]int64{"state": 6, "illegal": 9, "endless": 10}
	var faults []int64
	var results []impl.Result
	for move, want := range c.want {
		fault, known := faultNames[want]
		if faults = append(faults, fault); known {
			continue
		}
		first, rest, _ := strings.Cut(want, " ")
		gain, one := impl.ReadDecimal(strings.TrimPrefix(first, "+"))
		next, two := impl.ReadPosition(r, rest)
		if !one || !two {
			t.Fatalf("%+v cannot be read: %q", c, want)
		}
		results = append(results, impl.Result{Move: int64(move), Gain: gain, Again: next.Player == p.Player, Next: next})
	}
	return r, p, faults, results
}

// checkTurnCases checks positions, and also the turned boards.
func checkTurnCases(t *testing.T, cases []turnCase) {
	t.Helper()
	for _, c := range cases {
		r, p, faults, results := readTurnCase(t, c)
		checkMoves(t, r, p, faults, results)
		for i := range results {
			results[i].Next = turned(results[i].Next)
		}
		checkMoves(t, r, turned(p), faults, results)
	}
}

func TestFeedingByHand(t *testing.T) {
	const feed, free = "pits=3 capture=two-three feed", "pits=3 capture=two-three"
	checkTurnCases(t, []turnCase{
		// The player must feed: one move does, none does, some do.
		{feed, "0 1,0,1/0,0,0 0,0", []string{"illegal", "state", "+0 1 1,0,0/1,0,0 0,0"}},
		{feed, "1 0,0,0/1,0,1 3,4", []string{"illegal", "state", "+0 0 1,0,0/1,0,0 3,4"}},
		{feed, "0 1,0,0/0,0,0 0,0", []string{"illegal", "state", "state"}},
		{feed, "0 2,1,0/0,0,0 0,0", []string{"illegal", "illegal", "state"}},
		{feed, "0 2,2,1/0,0,0 0,0", []string{"illegal", "+0 1 2,0,2/1,0,0 0,0", "+0 1 2,2,0/1,0,0 0,0"}},
		{feed, "0 3,1,0/0,0,0 0,0", []string{"+0 1 0,2,1/1,0,0 0,0", "illegal", "state"}},
		{feed, "0 0,0,0/0,0,0 5,7", []string{"state", "state", "state"}},
		// The player need not feed, as a pit of the other player is not empty.
		{feed, "0 1,0,1/0,0,1 0,0", []string{"+0 1 0,1,1/0,0,1 0,0", "state", "+0 1 1,0,0/1,0,1 0,0"}},
		{feed, "0 1,1,0/1,0,0 0,0", []string{"+0 1 0,2,0/1,0,0 0,0", "+0 1 1,0,1/1,0,0 0,0", "state"}},
		{feed, "0 1,0,0/0,4,0 0,0", []string{"+0 1 0,1,0/0,4,0 0,0", "state", "state"}},
		// The other player has seeds before the move, and none after it.
		{feed, "0 0,0,1/1,0,0 0,0", []string{"state", "state", "+2 1 0,0,0/0,0,0 2,0"}},
		{feed, "0 1,0,1/2,0,0 0,0", []string{"+0 1 0,1,1/2,0,0 0,0", "state", "+3 1 1,0,0/0,0,0 3,0"}},
		{feed, "1 1,1,0/0,1,2 0,0", []string{"state", "+0 0 1,1,0/0,0,3 0,0", "+4 0 0,0,0/0,1,0 0,4"}},
		// Nobody must feed by other rules.
		{free, "0 1,0,1/0,0,0 0,0", []string{"+0 1 0,1,1/0,0,0 0,0", "state", "+0 1 1,0,0/1,0,0 0,0"}},
		{free, "0 1,0,0/0,0,0 0,0", []string{"+0 1 0,1,0/0,0,0 0,0", "state", "state"}},
		{free, "0 0,0,0/0,0,0 0,0", []string{"state", "state", "state"}},
	})
}

// TestFeedingAndCapturesByHand has moves that give seeds to the other player and take them again.
func TestFeedingAndCapturesByHand(t *testing.T) {
	const text = "0 0,6/0,0 0,0"
	checkTurnCases(t, []turnCase{
		{"pits=2 capture=two-three feed", text, []string{"state", "illegal"}},
		{"pits=2 capture=two-three", text, []string{"state", "+4 1 1,1/0,0 4,0"}},
		{"pits=2 capture=two-three feed slam=nothing", text, []string{"state", "+0 1 1,1/2,2 0,0"}},
		{"pits=2 capture=two-three slam=nothing", text, []string{"state", "+0 1 1,1/2,2 0,0"}},
		{"pits=2 capture=two-three feed slam=forbid", text, []string{"state", "illegal"}},
		{"pits=2 capture=two-three slam=forbid", text, []string{"state", "illegal"}},
		{"pits=2 capture=none feed slam=forbid", text, []string{"state", "+0 1 1,1/2,2 0,0"}},
		{"pits=2 capture=even feed", text, []string{"state", "+2 1 1,1/2,0 2,0"}},
		{"pits=2 capture=even feed", "0 0,5/0,0 0,0", []string{"state", "+2 1 1,1/0,1 2,0"}},
		{"pits=2 capture=cross feed", "0 4,0/0,0 0,0", []string{"+2 1 0,1/1,0 2,0", "state"}},
		// The last seed falls into the store, and the other player has none.
		{"pits=2 stores again feed", "0 0,1/0,0 0,0", []string{"state", "illegal"}},
		{"pits=2 stores again feed", "0 2,1/0,0 0,0", []string{"illegal", "illegal"}},
		{"pits=2 stores again feed", "0 3,1/0,0 0,0", []string{"+1 1 0,2/1,0 1,0", "illegal"}},
		{"pits=2 stores again", "0 0,1/0,0 0,0", []string{"state", "+1 0 0,0/0,0 1,0"}},
		{"pits=2 stores", "0 0,1/0,0 0,0", []string{"state", "+1 1 0,0/0,0 1,0"}},
	})
}

func TestSlamsByHand(t *testing.T) {
	const take, forbid, nothing = " slam=take", " slam=forbid", " slam=nothing"
	var cases []turnCase
	add := func(rules, text string, taken, forbidden, spared []string) {
		cases = append(cases,
			turnCase{rules + take, text, taken}, turnCase{rules, text, taken},
			turnCase{rules + forbid, text, forbidden}, turnCase{rules + nothing, text, spared})
	}
	same := func(rules, text string, want ...string) { add(rules, text, want, want, want) }
	for _, more := range []string{"", " feed"} {
		add("pits=2 capture=two-three"+more, "0 0,1/1,0 0,0",
			[]string{"state", "+2 1 0,0/0,0 2,0"}, []string{"state", "illegal"}, []string{"state", "+0 1 0,0/2,0 0,0"})
		same("pits=2 capture=two-three"+more, "0 0,1/1,1 0,0", "state", "+2 1 0,0/0,1 2,0")
		add("pits=2 capture=two-three"+more, "0 1,2/1,2 0,0",
			[]string{"+0 1 0,3/1,2 0,0", "+5 1 1,0/0,0 5,0"}, []string{"+0 1 0,3/1,2 0,0", "illegal"},
			[]string{"+0 1 0,3/1,2 0,0", "+0 1 1,0/2,3 0,0"})
		add("pits=2 capture=cross"+more, "0 1,0/2,0 0,0",
			[]string{"+3 1 0,0/0,0 3,0", "state"}, []string{"illegal", "state"}, []string{"+0 1 0,1/2,0 0,0", "state"})
		same("pits=2 capture=cross"+more, "0 1,0/2,1 0,0", "+3 1 0,0/0,1 3,0", "state")
		add("pits=2 capture=even"+more, "0 0,1/3,0 0,0",
			[]string{"state", "+4 1 0,0/0,0 4,0"}, []string{"state", "illegal"}, []string{"state", "+0 1 0,0/4,0 0,0"})
		same("pits=2 capture=even"+more, "0 0,1/3,1 0,0", "state", "+4 1 0,0/0,1 4,0")
		// Nothing is captured: there is no slam, though the other player has no seeds.
		same("pits=2 capture=none"+more, "0 1,1/1,0 0,0", "+0 1 0,2/1,0 0,0", "+0 1 1,0/2,0 0,0")
	}
	same("pits=2 capture=two-three", "0 1,0/0,0 0,0", "+0 1 0,1/0,0 0,0", "state")
	same("pits=2 capture=cross", "0 1,0/0,0 0,0", "+0 1 0,1/0,0 0,0", "state")
	checkTurnCases(t, cases)
}

func TestMovingAgainByHand(t *testing.T) {
	checkTurnCases(t, []turnCase{
		// The last seed of the first lap falls into the store, or into a pit.
		{"pits=2 stores again", "0 1,1/1,1 0,0", []string{"+0 1 0,2/1,1 0,0", "+1 0 1,0/1,1 1,0"}},
		{"pits=2 stores", "0 1,1/1,1 0,0", []string{"+0 1 0,2/1,1 0,0", "+1 1 1,0/1,1 1,0"}},
		{"pits=2 stores again", "0 3,2/0,0 5,6", []string{"+1 1 0,3/1,0 6,6", "+1 1 3,0/1,0 6,6"}},
		{"pits=2 stores again", "0 7,0/0,0 0,0", []string{"+2 0 1,2/1,1 2,0", "state"}},
		{"pits=2 stores", "0 7,0/0,0 0,0", []string{"+2 1 1,2/1,1 2,0", "state"}},
		{"pits=2 stores again", "1 0,0/1,1 3,4", []string{"+0 0 0,0/0,2 3,4", "+1 1 0,0/1,0 3,5"}},
		// The last seed of a later lap does.
		{"pits=2 stores again relay", "0 1,5/0,0 0,0", []string{"+2 0 1,1/1,1 2,0", "+1 1 2,1/1,1 1,0"}},
		{"pits=2 stores relay", "0 1,5/0,0 0,0", []string{"+2 1 1,1/1,1 2,0", "+1 1 2,1/1,1 1,0"}},
		{"pits=2 stores again relay", "0 1,1/0,0 0,0", []string{"+1 1 0,0/1,0 1,0", "+1 0 1,0/0,0 1,0"}},
		// The last seed of the first lap falls into a pit with seeds, and the store gets one in this lap.
		{"pits=2 stores again relay", "0 3,0/1,0 0,0", []string{"+1 1 1,1/0,1 1,0", "state"}},
	})
}

func TestGainsByHand(t *testing.T) {
	checkTurnCases(t, []turnCase{
		// From sowing alone, from captures alone, from both, and without a gain.
		{"pits=2 stores capture=cross", "0 0,3/0,0 2,1", []string{"state", "+1 1 0,0/1,1 3,1"}},
		{"pits=2 capture=cross", "0 1,0/2,3 2,1", []string{"+3 1 0,0/0,3 5,1", "state"}},
		{"pits=2 stores capture=cross", "0 1,0/2,3 2,1", []string{"+3 1 0,0/0,3 5,1", "state"}},
		{"pits=2 stores capture=cross", "0 5,0/0,0 2,1", []string{"+3 1 0,1/1,0 5,1", "state"}},
		{"pits=2 stores again capture=cross", "0 5,0/0,0 2,1", []string{"+3 1 0,1/1,0 5,1", "state"}},
		{"pits=2 stores capture=two-three", "0 0,3/1,2 2,1", []string{"state", "+6 1 0,0/0,0 8,1"}},
		{"pits=2 stores capture=two-three slam=nothing", "0 0,3/1,2 2,1", []string{"state", "+1 1 0,0/2,3 3,1"}},
		{"pits=2 stores capture=even", "1 3,0/0,3 2,1", []string{"state", "+1 0 4,1/0,0 2,2"}},
		{"pits=2 stores capture=even", "1 3,0/0,2 2,1", []string{"state", "+5 0 0,0/0,0 2,6"}},
		{"pits=2 stores capture=even", "0 2,0/2,0 9,9", []string{"+1 1 0,1/2,0 10,9", "state"}},
		{"pits=2 stores capture=even", "0 1,0/2,0 9,9", []string{"+0 1 0,1/2,0 9,9", "state"}},
		{"pits=2 capture=even", "0 0,2/2,1 90,1", []string{"state", "+2 1 0,0/3,0 92,1"}},
	})
}

// TestEndlessMovesAreNotLegal has endless moves beside others, also where the player must feed.
func TestEndlessMovesAreNotLegal(t *testing.T) {
	checkTurnCases(t, []turnCase{
		{"pits=2 skip relay", "0 4,6/0,0 0,0", []string{"+0 1 1,0/7,2 0,0", "endless"}},
		{"pits=2 skip relay feed", "0 4,6/0,0 0,0", []string{"+0 1 1,0/7,2 0,0", "endless"}},
		{"pits=2 skip relay feed slam=forbid capture=even", "0 4,6/0,0 0,0", []string{"+0 1 1,0/7,2 0,0", "endless"}},
	})
	for _, c := range limitCases() {
		r := impl.Rules{Pits: c.pits, Seeds: 1, Relay: true, Stores: c.stores, Skip: c.skip}
		p, _ := impl.ReadPosition(r, c.text)
		fault := impl.MoveFault(r, p, c.move)
		if fault != impl.ErrEndless*bit(c.laps > 100) {
			t.Errorf("%+v: move %d of %q with %d laps has the fault %d", r, c.move, c.text, c.laps, fault)
		}
		faults, results := expectTurns(r, p)
		checkMoves(t, r, p, faults, results)
	}
}

func TestExamplesOfMoves(t *testing.T) {
	kalah := standardTable()["kalah"]
	start, _ := impl.StartPosition(kalah)
	next, gain, code := impl.MakeMove(kalah, start, 2)
	if !sameNumbers(next, positionOf(0, []int64{1, 0}, 4, 4, 0, 5, 5, 5, 4, 4, 4, 4, 4, 4)) || gain != 1 || code != impl.OK {
		t.Errorf("move 2 of kalah leads to %+v, %d, %d", next, gain, code)
	}
	if !impl.MovesAgain(kalah, start, 2) {
		t.Error("player 0 does not move again after move 2 of kalah")
	}
	for _, move := range []int64{0, 1, 3, 4, 5} {
		if impl.MovesAgain(kalah, start, move) {
			t.Errorf("player 0 moves again after move %d of kalah", move)
		}
	}
	for _, name := range impl.StandardNames() {
		r := standardTable()[name]
		p, _ := impl.StartPosition(r)
		faults, results := expectTurns(r, p)
		checkMoves(t, r, p, faults, results)
	}
}

func TestGreedyMoveByHand(t *testing.T) {
	cases := []struct {
		rules, text      string
		move, gain, code int64
	}{
		{"pits=6 stores again capture=cross", "0 4,4,4,4,4,4/4,4,4,4,4,4 0,0", 2, 1, impl.OK},
		{"pits=3 capture=two-three", "0 2,2,2/2,2,2 0,0", 2, 6, impl.OK},
		// Nothing is gained: the first legal move.
		{"pits=3", "0 0,1,1/1,1,1 0,0", 1, 0, impl.OK},
		{"pits=3 feed", "0 1,0,1/0,0,0 0,0", 2, 0, impl.OK},
		{"pits=3 feed", "1 0,0,0/0,2,1 0,0", 1, 0, impl.OK},
		// Several moves have the greatest gain.
		{"pits=3 stores", "0 3,2,1/1,1,1 0,0", 0, 1, impl.OK},
		{"pits=3 stores", "0 1,2,1/1,1,1 0,0", 1, 1, impl.OK},
		{"pits=3 stores capture=cross", "0 1,0,1/0,0,0 0,0", 2, 1, impl.OK},
		{"pits=3 stores capture=cross", "0 1,0,1/0,1,0 0,0", 0, 2, impl.OK},
		{"pits=3 stores capture=cross", "1 0,1,0/1,0,1 9,0", 0, 2, impl.OK},
		{"pits=3 capture=even", "0 0,2,1/1,1,0 0,0", 1, 2, impl.OK},
		{"pits=3 capture=even", "0 0,2,1/3,1,0 0,0", 1, 4, impl.OK},
		{"pits=3 capture=even", "0 0,3,1/3,1,0 0,0", 2, 4, impl.OK},
		// The move with the greatest gain is not legal.
		{"pits=3 capture=even slam=forbid", "0 0,1,1/3,0,0 0,0", 1, 0, impl.OK},
		{"pits=3 stores feed", "0 0,2,1/0,0,0 0,0", 0, 0, impl.ErrNotFound},
		{"pits=3 stores feed", "0 4,2,1/0,0,0 0,0", 0, 1, impl.OK},
		// No move is legal.
		{"pits=3", "0 0,0,0/1,1,1 0,0", 0, 0, impl.ErrNotFound},
		{"pits=3", "1 1,1,1/0,0,0 0,0", 0, 0, impl.ErrNotFound},
		{"pits=3 feed", "0 1,1,0/0,0,0 5,5", 0, 0, impl.ErrNotFound},
		{"pits=3 capture=even slam=forbid", "0 0,0,1/3,0,0 0,0", 0, 0, impl.ErrNotFound},
		{"pits=3", "0 0,0,0/0,0,0 0,0", 0, 0, impl.ErrNotFound},
	}
	for _, c := range cases {
		r, problems, _ := impl.CheckRules(c.rules + " seeds=1")
		p, ok := impl.ReadPosition(r, c.text)
		if len(problems) > 0 || !ok {
			t.Fatalf("%+v cannot be read", c)
		}
		for _, p := range []impl.Position{p, turned(p)} {
			if move, gain, code := impl.GreedyMove(r, p); move != c.move || gain != c.gain || code != c.code {
				t.Errorf("%s: GreedyMove(%+v) = %d, %d, %d, want %+v", c.rules, p, move, gain, code, c)
			}
			if got := impl.CanMove(r, p); got != (c.code == impl.OK) {
				t.Errorf("%s: CanMove(%+v) = %v", c.rules, p, got)
			}
		}
	}
}

// seenTurns counts what was tried.
type seenTurns struct {
	legal, slams, unfed, endless, again, final int
}

func (s *seenTurns) add(r impl.Rules, p impl.Position, faults []int64, results []impl.Result) {
	for _, fault := range faults {
		s.endless += int(bit(fault == impl.ErrEndless))
		s.unfed += int(bit(fault == impl.ErrIllegal && r.Slam != impl.SlamForbid))
		s.slams += int(bit(fault == impl.ErrIllegal && !r.Feed))
	}
	for _, result := range results {
		s.again += int(bit(result.Again))
	}
	s.legal += len(results)
	s.final += int(bit(len(results) == 0))
}

// TestMoves compares all functions with what must come of sowing and capturing, for all kinds of rules.
func TestMoves(t *testing.T) {
	var seen seenTurns
	for _, r := range allMoveRules() {
		for _, p := range movePositions(r) {
			faults, results := expectTurns(r, p)
			seen.add(r, p, faults, results)
			checkMoves(t, r, p, faults, results)
		}
	}
	if min(seen.legal, seen.slams, seen.unfed, seen.endless, seen.again, seen.final) < 50 {
		t.Errorf("only these were tried: %+v", seen)
	}
}

// TestAllMovesOfASmallBoard tries pits with 0 to 3 seeds.
func TestAllMovesOfASmallBoard(t *testing.T) {
	eachMoveRules(2, func(r impl.Rules) {
		for code := range int64(4 * 4 * 4 * 4) {
			p := positionOf(code/3%2, []int64{1, 4}, code%4, code/4%4, code/16%4, code/64)
			faults, results := expectTurns(r, p)
			checkMoves(t, r, p, faults, results)
		}
	})
}

// TestMovesOutOfRange tries numbers that are no moves, also in positions without any legal move.
func TestMovesOutOfRange(t *testing.T) {
	for _, r := range someMoveRules() {
		for _, p := range slices.Concat(validPositions(r)[:8], hungryPositions(r)) {
			for _, move := range append([]int64{r.Pits, r.Pits + 1, 2 * r.Pits, -2, -r.Pits}, extremes...) {
				checkFault(t, r, p, move, impl.ErrRange)
			}
		}
	}
}

// TestOrderOfFaults has several faults at once.
func TestOrderOfFaults(t *testing.T) {
	r := impl.Rules{Pits: 2, Seeds: 1, Skip: true, Relay: true, Feed: true, Capture: impl.CapEven, Slam: impl.SlamForbid}
	p := positionOf(0, []int64{0, 0}, 0, 0, 0, 0)
	bad := r
	bad.Again = true
	checkFault(t, bad, p, 9, impl.ErrInvalid)
	checkFault(t, bad, p, 0, impl.ErrInvalid)
	checkFault(t, r, positionOf(2, p.Stores, p.Pits...), -1, impl.ErrInvalid)
	checkFault(t, r, positionOf(0, []int64{0, -1}, p.Pits...), 0, impl.ErrInvalid)
	checkFault(t, r, p, 2, impl.ErrRange)
	checkFault(t, r, p, -1, impl.ErrRange)
	checkFault(t, r, p, 0, impl.ErrState)
	checkFault(t, r, positionOf(0, p.Stores, 0, 1, 0, 0), 0, impl.ErrState)
	checkFault(t, r, positionOf(0, p.Stores, 4, 6, 0, 0), 1, impl.ErrEndless)
	checkFault(t, r, positionOf(0, p.Stores, 1, 0, 0, 0), 0, impl.ErrIllegal)
}

func TestMovesOfInvalidPositions(t *testing.T) {
	invalidPairs(func(r impl.Rules, p impl.Position) {
		checkNoMoves(t, r, p)
	})
	for _, r := range someMoveRules() {
		for _, p := range invalidPositions(r) {
			checkNoMoves(t, r, p)
		}
	}
	for _, r := range invalidRules() {
		r.Feed = true
		for _, pits := range []int64{0, 1, 2, 3, 9} {
			for player := range int64(2) {
				p := positionOf(player, []int64{1, 1}, make([]int64, 2*pits)...)
				checkNoMoves(t, r, p)
				for _, pit := range sidePits(impl.Rules{Pits: pits}, player) {
					p.Pits[pit] = 2
				}
				checkNoMoves(t, r, p)
			}
		}
	}
}

// TestMovesOnTheTurnedBoard is promise 7, without what else is known of moves.
func TestMovesOnTheTurnedBoard(t *testing.T) {
	for _, r := range allMoveRules() {
		for _, p := range movePositions(r) {
			q, _ := impl.TurnPosition(r, p)
			mine, one := impl.ResultsOf(r, p)
			theirs, two := impl.ResultsOf(r, q)
			for i := range theirs {
				theirs[i].Next = turned(theirs[i].Next)
			}
			if !equalResults(mine, theirs) || one != impl.OK || two != impl.OK {
				t.Fatalf("%+v: %+v has %+v, %d, on the turned board %+v, %d", r, p, mine, one, theirs, two)
			}
			for move := int64(-1); move <= r.Pits; move++ {
				if mine, theirs := impl.MoveFault(r, p, move), impl.MoveFault(r, q, move); mine != theirs {
					t.Fatalf("%+v: move %d of %+v has the fault %d, on the turned board %d", r, move, p, mine, theirs)
				}
			}
			if impl.MustFeed(r, p) != impl.MustFeed(r, q) || impl.CanMove(r, p) != impl.CanMove(r, q) {
				t.Fatalf("%+v: %+v differs from the turned board", r, p)
			}
		}
	}
}

// TestLegalMovesAreThoseWithoutFault is promise 7 too; and no move adds or loses seeds.
func TestLegalMovesAreThoseWithoutFault(t *testing.T) {
	for _, r := range someMoveRules() {
		for _, p := range slices.Concat(validPositions(r), movePositions(r)) {
			legal, code := impl.LegalMoves(r, p)
			if code != impl.OK || !slices.IsSorted(legal) {
				t.Fatalf("%+v: LegalMoves(%+v) = %v, %d", r, p, legal, code)
			}
			for move := int64(-2); move <= 2*r.Pits; move++ {
				next, gain, code := impl.MakeMove(r, p, move)
				if code != impl.MoveFault(r, p, move) || (code == impl.OK) != slices.Contains(legal, move) {
					t.Fatalf("%+v: move %d of %+v has the code %d, legal are %v", r, move, p, code, legal)
				}
				if code != impl.OK {
					continue
				}
				if !mustBeValid(r, next) || bigSum(numbersOf(next)).Cmp(bigSum(numbersOf(p))) != 0 {
					t.Fatalf("%+v: move %d of %+v leads to %+v", r, move, p, next)
				}
				stores := slices.Clone(p.Stores)
				stores[p.Player] += gain
				if !slices.Equal(stores, next.Stores) || gain < 0 {
					t.Fatalf("%+v: move %d of %+v gains %d, and leads to %+v", r, move, p, gain, next)
				}
			}
		}
	}
}

// TestMovesByOtherSeeds checks that the number of seeds at the beginning does not matter.
func TestMovesByOtherSeeds(t *testing.T) {
	for _, r := range someMoveRules() {
		for _, p := range movePositions(r)[20:] {
			faults, results := expectTurns(r, p)
			for r.Seeds = 1; r.Seeds <= 6; r.Seeds++ {
				checkMoves(t, r, p, faults, results)
			}
			r.Seeds = 1
		}
	}
}

func someResults() []impl.Result {
	return []impl.Result{
		{Move: 0, Gain: 3, Next: positionOf(1, []int64{3, 0}, 0, 1, 2, 4)},
		{Move: 1, Gain: 0, Again: true, Next: positionOf(0, []int64{0, 7}, 5, 0, 2, 2)},
		{Move: -5, Gain: math.MinInt64, Next: positionOf(math.MaxInt64, nil, 7)},
		{},
	}
}

// spoiledResults has lists that differ from someResults in one place.
func spoiledResults() [][]impl.Result {
	var all [][]impl.Result
	add := func(i int, change func(result *impl.Result)) {
		list := someResults()
		change(&list[i])
		all = append(all, list)
	}
	for i, result := range someResults() {
		for _, n := range append([]int64{1, 2, 256}, extremes...) {
			add(i, func(result *impl.Result) { result.Move += n })
			add(i, func(result *impl.Result) { result.Gain += n })
		}
		add(i, func(result *impl.Result) { result.Again = !result.Again })
		for _, next := range spoiled(result.Next) {
			add(i, func(result *impl.Result) { result.Next = next })
		}
	}
	list := someResults()
	all = append(all, list[:3], list[1:], list[:1], append(someResults(), impl.Result{}), append(someResults(), list[0]))
	return append(all, []impl.Result{list[1], list[0], list[2], list[3]}, slices.Repeat(list[:1], 4), nil, []impl.Result{})
}

func TestSameResults(t *testing.T) {
	list := someResults()
	if !impl.SameResults(list, list) || !impl.SameResults(list, someResults()) {
		t.Error("a list of results is not the same as itself")
	}
	for _, other := range spoiledResults() {
		if impl.SameResults(list, other) || impl.SameResults(other, list) {
			t.Errorf("%+v is the same as %+v", other, list)
		}
		if !impl.SameResults(other, cloneResults(other)) {
			t.Errorf("%+v is not the same as itself", other)
		}
	}
	if !equalResults(list, someResults()) {
		t.Error("SameResults changed a list")
	}
}

func TestSameResultsOfEmptyLists(t *testing.T) {
	empty, other := []impl.Result{}, make([]impl.Result, 0, 5)
	for _, a := range [][]impl.Result{nil, empty, other} {
		for _, b := range [][]impl.Result{nil, empty, other} {
			if !impl.SameResults(a, b) {
				t.Errorf("the empty lists %#v and %#v differ", a, b)
			}
		}
		if one := []impl.Result{{}}; impl.SameResults(a, one) || impl.SameResults(one, a) {
			t.Error("the empty list is the same as a list of a zero result")
		}
	}
	with := []impl.Result{{Next: impl.Position{Pits: []int64{}, Stores: []int64{}}}}
	without := []impl.Result{{}}
	if !impl.SameResults(with, without) || !impl.SameResults(without, with) {
		t.Error("results with numbers that are nil and that are empty differ")
	}
}

// TestSameResultsOfMoves compares what the moves of many positions lead to.
func TestSameResultsOfMoves(t *testing.T) {
	for _, r := range someMoveRules() {
		var before []impl.Result
		for _, p := range movePositions(r) {
			list, _ := impl.ResultsOf(r, p)
			again, _ := impl.ResultsOf(r, p)
			if !impl.SameResults(list, again) || impl.SameResults(list, before) != equalResults(list, before) {
				t.Fatalf("%+v: SameResults of %+v, %+v and %+v is wrong", r, list, again, before)
			}
			before = list
		}
	}
}

func TestMovesLeaveTheirArguments(t *testing.T) {
	for _, r := range someMoveRules() {
		for _, p := range slices.Concat(validPositions(r), invalidPositions(r), movePositions(r)) {
			q, unchanged := spacious(p)
			for move := int64(-1); move <= r.Pits; move++ {
				resultsOfMoves(r, q, move, nil)
			}
			if !unchanged() {
				t.Fatalf("%+v: %+v was changed", r, p)
			}
		}
	}
}

func TestSameResultsLeavesItsArguments(t *testing.T) {
	p, unchanged := spacious(positionOf(0, []int64{1, 2}, 3, 4, 5, 6))
	list := append(make([]impl.Result, 0, 8), impl.Result{Move: 1, Gain: 2, Next: p}, impl.Result{Move: 2, Next: p})
	room := list[:8]
	want := cloneResults(room)
	for _, other := range append(spoiledResults(), list) {
		impl.SameResults(list, other)
		impl.SameResults(other, list)
	}
	if !unchanged() || !equalResults(room, want) {
		t.Error("SameResults changed a list")
	}
}

// ruinResults overwrites a list of results and all that it has.
func ruinResults(list []impl.Result) {
	for i := range list {
		ruin(list[i].Next)
	}
	list = list[:cap(list)]
	for i := range list {
		list[i] = impl.Result{Move: -99}
	}
}

func TestMovesAreNewMemory(t *testing.T) {
	for _, r := range someMoveRules() {
		for _, p := range movePositions(r) {
			q, unchanged := spacious(p)
			_, want := expectTurns(r, p)
			first, _ := impl.ResultsOf(r, q)
			second, _ := impl.ResultsOf(r, q)
			moves, _ := impl.LegalMoves(r, q)
			ruinList(moves)
			ruinResults(first)
			for _, result := range want {
				next, _, _ := impl.MakeMove(r, q, result.Move)
				ruinList(next.Pits)
				if !slices.Equal(next.Stores, result.Next.Stores) {
					t.Fatalf("%+v: move %d of %+v has pits and stores in the same memory", r, result.Move, p)
				}
				ruinList(next.Stores)
			}
			if !unchanged() || !equalResults(second, want) {
				t.Fatalf("%+v: what follows from %+v shares memory", r, p)
			}
			for i := range second {
				ruinList(second[i].Next.Pits)
				if !slices.Equal(second[i].Next.Stores, want[i].Next.Stores) || !equalResults(second[i+1:], want[i+1:]) {
					t.Fatalf("%+v: results of %+v share memory", r, p)
				}
				ruinList(second[i].Next.Stores)
			}
			faults, results := expectTurns(r, p)
			checkMoves(t, r, q, faults, results)
		}
	}
}
