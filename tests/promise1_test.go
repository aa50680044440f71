package tests

import (
	"math"
	"reflect"
	"slices"
	"strings"
	"testing"

	"loop.example/g00926/impl"
)

// resultsOfBasics has all results of the functions of chapter 1 for a text and a number.
func resultsOfBasics(s string, n int64) []any {
	read, ok := impl.ReadDecimal(s)
	return []any{impl.CodeName(n), impl.IsName(s), impl.Decimal(n), read, ok, impl.SplitWords(s)}
}

// resultsOfRules has all results of the functions of chapter 2 for rules, a name and two numbers.
func resultsOfRules(r impl.Rules, name string, a, b int64) []any {
	standard, one := impl.StandardRules(name)
	known, two := impl.StandardName(r)
	seeds, three := impl.TotalSeeds(r)
	pit, four := impl.PitOfMove(r, a, b)
	out := []any{impl.ValidRules(r), impl.StandardNames(), standard, one, known, two, seeds, three, pit, four}
	for _, f := range pitFunctions() {
		result, code := f.call(r, a)
		out = append(out, result, code)
	}
	return out
}

// resultsOfRuleTexts has all results of the functions of chapter 3 for rules, others, a text and a number.
func resultsOfRuleTexts(r, other impl.Rules, s string, n int64) []any {
	slam, one := impl.SlamNamed(s)
	value, two := impl.FieldOf(r, s)
	changed, three := impl.SetField(r, s, n)
	read, ok := impl.ReadRules(s)
	understood, problems, four := impl.CheckRules(s)
	fields, five := impl.DifferentFields(r, other)
	game, far, six := impl.NearestGame(r)
	return []any{
		impl.SlamName(n), impl.CaptureName(n), impl.FieldNames(), impl.RulesText(r), slam, one, value, two, changed, three,
		read, ok, understood, problems, four, fields, five, game, far, six,
		impl.ProblemText(impl.Problem{Kind: n, At: n, Word: s}),
	}
}

// resultsOfPositions has all results of the functions of chapter 4 for rules, two positions, a text and a number.
func resultsOfPositions(r impl.Rules, p, other impl.Position, s string, n int64) []any {
	start, one := impl.StartPosition(r)
	turn, two := impl.TurnPosition(r, p)
	view, three := impl.ViewOf(r, p)
	all, four := impl.SeedsOn(r, p)
	side, five := impl.SideSeeds(r, p, n)
	read, ok := impl.ReadPosition(r, s)
	return []any{
		impl.ValidPosition(r, p), impl.SamePosition(p, other), impl.IsWhole(r, p), impl.ComparePositions(p, other),
		impl.PositionText(r, p), start, one, turn, two, view, three, all, four, side, five, read, ok,
	}
}

// resultsOfSowing has all results of the functions of chapter 5 for rules, a position, what is sown, and three numbers.
func resultsOfSowing(r impl.Rules, p impl.Position, s impl.Sown, player, move, seeds int64) []any {
	lap, one := impl.SowLap(r, p, move)
	all, two := impl.SowMove(r, p, move)
	path, three := impl.SowPath(r, p, move)
	length, four := impl.LapLength(r)
	last, five := impl.LastPlace(r, player, move, seeds)
	return []any{
		lap, one, all, two, path, three, length, four, last, five,
		impl.IsEndless(r, p, move), impl.SownSeeds(s), impl.SameSown(s, lap), impl.SameSown(all, s),
	}
}

// resultsOfCaptures has all results of the functions of chapter 6 for rules, what is sown, a number and a text.
func resultsOfCaptures(r impl.Rules, s impl.Sown, n int64, name string) []any {
	pits, one := impl.CapturePits(r, s, n)
	gain, two := impl.CaptureGain(r, s, n)
	after, three := impl.TakeCaptures(r, s, n)
	kind, four := impl.CaptureNamed(name)
	return []any{
		pits, one, gain, two, after, three, kind, four, impl.IsSlam(r, s, n), impl.ValidSown(r, s, n), impl.CaptureName(n),
	}
}

// resultsOfMoves has all results of the functions of chapter 7 for rules, a position, a move and a list of results.
func resultsOfMoves(r impl.Rules, p impl.Position, move int64, others []impl.Result) []any {
	legal, one := impl.LegalMoves(r, p)
	next, gain, two := impl.MakeMove(r, p, move)
	list, three := impl.ResultsOf(r, p)
	best, most, four := impl.GreedyMove(r, p)
	return []any{
		legal, one, next, gain, two, list, three, best, most, four, impl.MoveFault(r, p, move), impl.CanMove(r, p),
		impl.MovesAgain(r, p, move), impl.SameResults(list, others), impl.SameResults(others, list), impl.MustFeed(r, p),
	}
}

// resultsOfGames has all results of the functions of chapter 8 for two games, a position, a number and a list of moves.
func resultsOfGames(g, other impl.Game, p impl.Position, n int64, moves []int64) []any {
	begun, one := impl.NewGame(g.Rules)
	from, two := impl.GameFrom(g.Rules, p)
	more, three := impl.PlayMove(g, n)
	many, made, four := impl.PlayMoves(g, moves)
	less, five := impl.UndoMove(g)
	given, six := impl.ResignGame(g, n)
	history, seven := impl.HistoryOf(g)
	movers, eight := impl.MoversOf(g)
	gains, nine := impl.GainsOf(g)
	repeats, ten := impl.RepeatsOf(g)
	return []any{
		impl.ValidGame(g), impl.SameGame(g, other), impl.SameGame(other, g), begun, one, from, two, more, three, many, made, four,
		less, five, given, six, history, seven, movers, eight, gains, nine, repeats, ten,
	}
}

// resultsOfEndings has all results of the functions of chapter 9 for a game, a position and a number.
func resultsOfEndings(g impl.Game, p impl.Position, n int64) []any {
	majority, one := impl.MajorityOf(g.Rules, p)
	needed, two := impl.NeededFor(g.Rules, p, n)
	settled, three := impl.SettlePosition(g.Rules, p)
	given, four := impl.GivePosition(g.Rules, p, n)
	lead, five := impl.LeadOf(g.Rules, p)
	end, six := impl.EndOf(g)
	final, seven := impl.FinalPosition(g)
	scores, eight := impl.ScoresOf(g)
	winner, nine := impl.WinnerOf(g)
	cut, ten := impl.CutGame(g)
	return []any{
		impl.EndName(n), majority, one, needed, two, settled, three, given, four, lead, five,
		end, six, final, seven, scores, eight, winner, nine, cut, ten,
	}
}

// resultsOfRecords has all results of the functions of chapter 10 for a game, a list of moves, a text and a number.
func resultsOfRecords(g impl.Game, moves []int64, s string, n int64) []any {
	read, one := impl.ReadMoves(s)
	game, two := impl.ReadRecord(s)
	at, fault, three := impl.CheckRecord(s)
	notes, four := impl.NotesOn(g)
	summary, five := impl.SummaryOf(g)
	return []any{
		impl.MovesText(moves), read, one, impl.RecordText(g), game, two, at, fault, three, impl.LineFault(n), notes, four, summary, five,
	}
}

// resultsOfExplanations has all results of the functions of chapter 11 for rules, a position, a move, facts, others, and a text.
func resultsOfExplanations(r impl.Rules, p impl.Position, move int64, facts, others []impl.Fact, s string) []any {
	list, one := impl.FactsOf(r, p, move)
	after, two := impl.ApplyFacts(r, p, facts)
	read, three := impl.ReadFact(s)
	reason, four := impl.WhyNot(r, p, move)
	texts, five := impl.ExplainMove(r, p, move)
	pits, six := impl.TouchedPits(r, p, move)
	seeds, seven := impl.SeedsMoved(r, p, move)
	out := []any{
		impl.SameFacts(facts, others), impl.SameFacts(others, facts), impl.SameFacts(facts, list), list, one, after, two, read, three,
		reason, four, texts, five, pits, six, seeds, seven,
	}
	for _, f := range facts[:min(len(facts), 20)] {
		out = append(out, impl.FactText(f))
	}
	return out
}

// resultsOfDistributions has all results of the functions of chapter 12 for a list and three numbers.
func resultsOfDistributions(pits []int64, a, b, c int64) []any {
	ways, one := impl.Choose(a, b)
	count, two := impl.CountSeeds(a, b)
	rank, three := impl.RankSeeds(pits)
	list, four := impl.UnrankSeeds(a, b, c)
	next, five := impl.NextSeeds(pits)
	last, six := impl.LastSeeds(pits)
	all, seven := impl.AllSeeds(a, b)
	return []any{ways, one, count, two, rank, three, list, four, next, five, last, six, all, seven, impl.ValidSeeds(pits)}
}

// resultsOfNumbers has all results of the functions of chapter 13 for rules, two positions and two numbers.
func resultsOfNumbers(r impl.Rules, p, other impl.Position, a, b int64) []any {
	count, one := impl.CountPositions(r, a)
	number, two := impl.NumberOf(r, p)
	numbered, three := impl.PositionAt(r, a, b)
	first, four := impl.FirstIndex(r, a)
	index, five := impl.IndexOf(r, p)
	at, six := impl.AtIndex(r, b)
	return []any{
		count, one, number, two, numbered, three, first, four, index, five, at, six, impl.SameNumber(r, p, other), impl.SameNumber(r, other, p),
	}
}

// resultsOfPacking has all results of the functions of chapter 14 for a list, runs, a text and two numbers.
func resultsOfPacking(list []int64, runs []impl.Run, s string, n, at int64) []any {
	put, one := impl.PutNumber(n)
	got, end, two := impl.GetNumber(s, at)
	found, three := impl.RunsOf(list)
	back, four := impl.FromRuns(runs)
	packed, five := impl.PackList(list)
	unpacked, six := impl.UnpackList(s)
	size, seven := impl.PackedSize(list)
	return []any{put, one, got, end, two, found, three, back, four, packed, five, unpacked, six, size, seven, impl.ChecksumOf(s)}
}

func TestEqualArgumentsHaveEqualResultsInPacking(t *testing.T) {
	numbers := append([]int64{0, 1, 2, 63, 64, 8192, 1e6, 1e6 + 1, -1e6, -1e6 - 1}, extremes...)
	texts := []string{"", "\x00", "\x80", "\xff\x00", "\x00\x00\x1f", "\x02\x00\x06\x7b\xe7", "\x02\x00\x06\x7b\xe8", withChecksum("\x01"), strings.Repeat("\xff", 5000)}
	for _, list := range shortLists()[:20] {
		texts = append(texts, packedOf(list))
	}
	lists := append(shortLists(), unpackable()...)
	for _, cases := range runCases() {
		for i, runs := range cases {
			for j, s := range texts {
				for k, n := range numbers {
					if (i+j+k)%3 > 0 {
						continue
					}
					list, at := lists[(i+3*j+5*k)%len(lists)], numbers[(i+2*j+3*k)%len(numbers)]
					one := resultsOfPacking(list, runs, s, n, at)
					two := resultsOfPacking(slices.Clone(list), slices.Clone(runs), strings.Clone(s), n, at)
					if !reflect.DeepEqual(one, two) {
						t.Errorf("%v, %v, %q, %d, %d: %v and %v", list, runs, s, n, at, one, two)
					}
				}
			}
		}
	}
}

func TestEqualArgumentsHaveEqualResultsInNumbers(t *testing.T) {
	numbers := append([]int64{0, 1, 2, 17, 91, 92, 96, 97, 1e9 - 1, 1e9}, extremes...)
	for i, r := range append(boards(), invalidRules()...) {
		positions := append(validPositions(boards()[1]), invalidPositions(boards()[1])...)
		if impl.ValidRules(r) {
			positions = append(validPositions(r), invalidPositions(r)...)
		}
		for j, p := range positions {
			other := positions[(i+3*j)%len(positions)]
			for k, a := range numbers {
				b := numbers[(i+j+5*k)%len(numbers)]
				one, two := resultsOfNumbers(r, p, other, a, b), resultsOfNumbers(r, clonePosition(p), clonePosition(other), a, b)
				if !reflect.DeepEqual(one, two) {
					t.Errorf("%+v, %+v, %+v, %d, %d: %v and %v", r, p, other, a, b, one, two)
				}
			}
		}
	}
}

func TestEqualArgumentsHaveEqualResultsInDistributions(t *testing.T) {
	numbers := append([]int64{0, 1, 2, 3, 17, 56, 57, 96, 97, 200, 201, 2999, 1e15}, extremes...)
	lists := append(invalidLists(), []int64{0, 3, 0}, []int64{0, 2}, []int64{2, 0}, slices.Repeat([]int64{3}, 16))
	for i, a := range numbers {
		for j, b := range numbers {
			for k, c := range numbers {
				list := lists[(i+7*j+5*k)%len(lists)]
				one, two := resultsOfDistributions(list, a, b, c), resultsOfDistributions(slices.Clone(list), a, b, c)
				if !reflect.DeepEqual(one, two) {
					t.Errorf("%v, %d, %d, %d: %v and %v", list, a, b, c, one, two)
				}
			}
		}
	}
}

func TestEqualArgumentsHaveEqualResultsInExplanations(t *testing.T) {
	texts := []string{"", " ", "turn", "again", "take 3 from 2", "sow 3 into store", "sow 0 into 1", "\xff\x00", strings.Repeat("sow ", 5000)}
	lists := append(spoiledFacts(), nil, []impl.Fact{}, slices.Repeat([]impl.Fact{{Kind: 6}}, 3000), slices.Repeat([]impl.Fact{{Kind: 6}}, 3001))
	for i, r := range append(someMoveRules(), invalidRules()...) {
		positions := append(validPositions(boards()[1]), invalidPositions(boards()[1])...)
		if impl.ValidRules(r) {
			positions = append(movePositions(r), invalidPositions(r)...)
		}
		for j, p := range positions {
			if (i+j)%3 > 0 {
				continue
			}
			for k, move := range []int64{0, 1, r.Pits, extremes[j%len(extremes)]} {
				facts, _ := impl.FactsOf(r, p, 0)
				others, s := lists[(i+j+k)%len(lists)], texts[(i+j+k)%len(texts)]
				if k%2 == 1 {
					facts, others = others, facts
				}
				one := resultsOfExplanations(r, p, move, facts, others, s)
				two := resultsOfExplanations(r, clonePosition(p), move, slices.Clone(facts), slices.Clone(others), s)
				if !reflect.DeepEqual(one, two) {
					t.Errorf("%+v, %+v, %d, %v, %v, %q: %v and %v", r, p, move, facts, others, s, one, two)
				}
			}
		}
	}
}

func TestEqualArgumentsHaveEqualResultsInRecords(t *testing.T) {
	numbers := append([]int64{0, 1, 7, 8}, extremes...)
	texts := append(shortRecords(), "", "\n", "1 2 3", "x", "\xff\x00", strings.Repeat("1 ", 5000), strings.Repeat("\n", 4000), recordOf(circle(120)))
	for i, w := range fewGames() {
		given, _ := w.given(int64(i % 2))
		games := append(invalidGames(w), spoiledGames(given.game)...)
		for j, g := range append(games, w.game, given.game, circle(i%121).game) {
			if j%7 != i%7 && j < len(games) {
				continue
			}
			s, n := texts[(i+j)%len(texts)], numbers[(i+j)%len(numbers)]
			one := resultsOfRecords(g, g.Moves, s, n)
			two := resultsOfRecords(cloneGame(g), slices.Clone(g.Moves), strings.Clone(s), n)
			if !reflect.DeepEqual(one, two) {
				t.Errorf("%+v, %q, %d: %v and %v", g, s, n, one, two)
			}
		}
	}
}

func TestEqualArgumentsHaveEqualResultsInEndings(t *testing.T) {
	numbers := append([]int64{0, 1, 2, 3, 4, 5, 6}, extremes...)
	for i, w := range fewGames() {
		given, _ := w.given(int64(i % 2))
		games := append(invalidGames(w), spoiledGames(given.game)...)
		for j, g := range append(games, w.game, given.game, w.cut().game, circle(i%121).game) {
			if j%5 != i%5 && j < len(games) {
				continue
			}
			n := numbers[(i+j)%len(numbers)]
			one := resultsOfEndings(g, g.Now, n)
			two := resultsOfEndings(cloneGame(g), clonePosition(g.Now), n)
			if !reflect.DeepEqual(one, two) {
				t.Errorf("%+v, %d: %v and %v", g, n, one, two)
			}
		}
	}
}

func TestEqualArgumentsHaveEqualResultsInGames(t *testing.T) {
	lists := [][]int64{nil, {}, {0, 1, 0}, {1, 1}, extremes, make([]int64, 5000), {math.MaxInt64}}
	for i, w := range fewGames() {
		games := append(invalidGames(w), spoiledGames(w.game)...)
		for j, g := range append(games, w.game, w.game, w.game) {
			if j%7 != i%7 && j < len(games) {
				continue
			}
			other, moves := games[(i*j)%len(games)], lists[j%len(lists)]
			for _, n := range []int64{0, 1, extremes[j%len(extremes)]} {
				one := resultsOfGames(g, other, g.Now, n, moves)
				two := resultsOfGames(cloneGame(g), cloneGame(other), clonePosition(g.Now), n, slices.Clone(moves))
				if !reflect.DeepEqual(one, two) {
					t.Errorf("%+v, %+v, %d, %v: %v and %v", g, other, n, moves, one, two)
				}
			}
		}
	}
}

func TestEqualArgumentsHaveEqualResultsInMoves(t *testing.T) {
	for _, r := range append(someMoveRules(), invalidRules()...) {
		positions := append(validPositions(boards()[1]), invalidPositions(boards()[1])...)
		if impl.ValidRules(r) {
			positions = append(movePositions(r), append(validPositions(r), invalidPositions(r)...)...)
		}
		for i, p := range positions {
			others, _ := impl.ResultsOf(r, positions[i/2])
			for _, move := range []int64{0, 1, r.Pits, extremes[i%len(extremes)]} {
				one := resultsOfMoves(r, p, move, others)
				two := resultsOfMoves(r, clonePosition(p), move, cloneResults(others))
				if !reflect.DeepEqual(one, two) {
					t.Errorf("%+v, %+v, %d, %+v: %v and %v", r, p, move, others, one, two)
				}
			}
		}
	}
}

func TestEqualArgumentsHaveEqualResultsInCaptures(t *testing.T) {
	names := []string{"", "none", "even", "Even", "even ", "\xff", strings.Repeat("a", 5000)}
	for _, r := range append(allCaptureRules(), invalidRules()...) {
		positions := append(validPositions(boards()[1]), invalidPositions(boards()[1])...)
		if impl.ValidRules(r) {
			positions = append(thinSides(r)[:10], append(validPositions(r), invalidPositions(r)...)...)
		}
		for i, p := range positions {
			for _, last := range []int64{-1, 0, r.Pits, int64(i % 16), extremes[i%len(extremes)]} {
				s := impl.Sown{Pits: p.Pits, Stores: p.Stores, Last: last, Laps: 1}
				for _, n := range []int64{0, 1, 2, extremes[i%len(extremes)]} {
					name := names[i%len(names)]
					one, two := resultsOfCaptures(r, s, n, name), resultsOfCaptures(r, cloneSown(s), n, name)
					if !reflect.DeepEqual(one, two) {
						t.Errorf("%+v, %+v, %d, %q: %v and %v", r, s, n, name, one, two)
					}
				}
			}
		}
	}
}

func TestEqualArgumentsHaveEqualResultsInSowing(t *testing.T) {
	for _, r := range append(allSowingRules(), invalidRules()...) {
		positions := append(validPositions(boards()[1]), invalidPositions(boards()[1])...)
		if impl.ValidRules(r) {
			positions = append(fullPositions(r)[:10], append(validPositions(r), invalidPositions(r)...)...)
		}
		for i, p := range positions {
			s := impl.Sown{Pits: p.Pits, Stores: p.Stores, Last: p.Player, Laps: extremes[i%len(extremes)]}
			for _, n := range []int64{0, 1, r.Pits, extremes[i%len(extremes)]} {
				one := resultsOfSowing(r, p, s, n, n, n)
				two := resultsOfSowing(r, clonePosition(p), cloneSown(s), n, n, n)
				if !reflect.DeepEqual(one, two) {
					t.Errorf("%+v, %+v, %+v, %d: %v and %v", r, p, s, n, one, two)
				}
			}
		}
	}
}

func TestEqualArgumentsHaveEqualResultsInPositions(t *testing.T) {
	for _, r := range append(boards(), invalidRules()...) {
		positions := append(validPositions(boards()[1]), invalidPositions(boards()[1])...)
		if impl.ValidRules(r) {
			positions = append(validPositions(r), invalidPositions(r)...)
		}
		for i, p := range positions {
			other, s := positions[len(positions)-1-i], textOfPosition(p)
			for _, n := range []int64{0, 1, 2, extremes[i%len(extremes)]} {
				one, two := resultsOfPositions(r, p, other, s, n), resultsOfPositions(r, clonePosition(p), other, s, n)
				if !reflect.DeepEqual(one, two) {
					t.Errorf("%+v, %+v, %+v, %q, %d: %v and %v", r, p, other, s, n, one, two)
				}
			}
		}
	}
}

func TestEqualArgumentsHaveEqualResultsInRuleTexts(t *testing.T) {
	texts := []string{
		"", " ", "take", "pits", "again", "\xff\x00", "pits=3 seeds=2", "again skip skip pits=x blue", strings.Repeat("a ", 5000),
		"pits=3 seeds=2 capture=two-three slam=take feed",
	}
	numbers := append([]int64{0, 1, 2, 3, 4, 5, 6, 7}, extremes...)
	rules := append(invalidRules(), impl.Rules{Pits: 2, Seeds: 1})
	for _, r := range standardTable() {
		rules = append(rules, r)
	}
	for _, s := range texts {
		for _, n := range numbers {
			for i, r := range rules {
				other := rules[len(rules)-1-i]
				one, two := resultsOfRuleTexts(r, other, s, n), resultsOfRuleTexts(r, other, s, n)
				if !reflect.DeepEqual(one, two) {
					t.Errorf("%+v, %+v, %q, %d: %v and %v", r, other, s, n, one, two)
				}
			}
		}
	}
}

func TestEqualArgumentsHaveEqualResults(t *testing.T) {
	texts := []string{"", " ", "oware", "oware-6", "-12", "a b  c", "\xff\x00", "999999999999999999", strings.Repeat("a ", 5000)}
	numbers := append([]int64{0, 1, 2, 3, 5, 10, 11}, extremes...)
	rules := invalidRules()
	for _, r := range standardTable() {
		rules = append(rules, r)
	}
	for _, s := range texts {
		for _, a := range numbers {
			if one, two := resultsOfBasics(s, a), resultsOfBasics(s, a); !reflect.DeepEqual(one, two) {
				t.Errorf("%q, %d: %v and %v", s, a, one, two)
			}
			for _, r := range rules {
				one, two := resultsOfRules(r, s, a, a), resultsOfRules(r, s, a, a)
				if !reflect.DeepEqual(one, two) {
					t.Errorf("%+v, %q, %d: %v and %v", r, s, a, one, two)
				}
			}
		}
	}
}
