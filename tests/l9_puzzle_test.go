package tests

import (
	"math"
	"math/big"
	"reflect"
	"slices"
	"strconv"
	"strings"
	"testing"

	"loop.example/g01351/impl"
)

// puzzleNumbers are ints at and around every limit of chapter 9, and at the ends of what an int can be.
var puzzleNumbers = []int{
	math.MinInt, math.MinInt + 1, -1 << 32, -200, -1, 0, 1, 2, 3, 4, 5, 6, 7, 11, 12, 13, 24, 25, 144, 199, 200, 201,
	9999, 10000, 1 << 31, 1 << 32, 1<<32 + 1, 1 << 62, math.MaxInt - 1, math.MaxInt,
}

// hiddenFacts is what clues may tell of hidden ladders. Fractions are in lowest terms.
type hiddenFacts struct {
	sum, product              int
	isGreater                 bool
	cross, place              [2]int
	isLeftWhole, isRightWhole bool
}

// factsOfHidden are the facts of all hidden ladders, by Wide, Left and Right, each less 1.
var factsOfHidden = func() (all [12][12][12]hiddenFacts) {
	for k := range 1728 {
		wide, left, right := k/144, k/12%12, k%12
		all[wide][left][right] = factsByLines(impl.Ladders{Wide: wide + 1, Left: left + 1, Right: right + 1})
	}
	return all
}()

// factsByLines tells the crossing from the lines: between the walls one falls as much below the other one as it was above it.
func factsByLines(l impl.Ladders) hiddenFacts {
	above := func(place int) *big.Rat {
		return sub(heightOf(l, false, rat(place, 1)), heightOf(l, true, rat(place, 1)))
	}
	falls := sub(above(0), above(l.Wide))
	place := mul(rat(l.Wide, 1), new(big.Rat).Quo(above(0), falls))
	return hiddenFacts{
		sum: l.Left + l.Right, product: l.Left * l.Right, isGreater: l.Left > l.Right,
		cross: inLowestTerms(heightOf(l, true, place)), place: inLowestTerms(place),
		isLeftWhole: isWholeSlope(l.Wide, l.Left), isRightWhole: isWholeSlope(l.Wide, l.Right),
	}
}

func inLowestTerms(r *big.Rat) [2]int {
	return [2]int{int(r.Num().Int64()), int(r.Denom().Int64())}
}

func isWholeSlope(wide int, high int) bool {
	_, whole := isSquare(wide*wide + high*high)
	return whole
}

func factsOf(l impl.Ladders) hiddenFacts {
	return factsOfHidden[l.Wide-1][l.Left-1][l.Right-1]
}

// fit tells whether ladders with these facts fit a clue.
func (f hiddenFacts) fit(c impl.Clue) bool {
	switch c.Kind {
	case 0:
		return f.sum == c.B
	case 1:
		return f.isGreater == (c.B == 1)
	case 2:
		return f.cross == [2]int{c.A, c.B}
	case 3:
		return []bool{f.isLeftWhole, f.isRightWhole}[c.A] == (c.B == 1)
	case 4:
		return f.place == [2]int{c.A, c.B}
	}
	return f.product == c.B
}

// clueFor is the clue of a kind that these facts fit, for the kind 3 that of one of the ladders.
func (f hiddenFacts) clueFor(kind int, which int) impl.Clue {
	truth := func(is bool) int {
		if is {
			return 1
		}
		return 0
	}
	return []impl.Clue{
		{Kind: 0, B: f.sum},
		{Kind: 1, B: truth(f.isGreater)},
		{Kind: 2, A: f.cross[0], B: f.cross[1]},
		{Kind: 3, A: which, B: truth([]bool{f.isLeftWhole, f.isRightWhole}[which])},
		{Kind: 4, A: f.place[0], B: f.place[1]},
		{Kind: 5, B: f.product},
	}[kind]
}

func hiddenLadders(check func(l impl.Ladders)) {
	for wide := 1; wide <= 12; wide++ {
		for _, l := range solutionsBySearch(wide, nil) {
			check(l)
		}
	}
}

func solutionsBySearch(wide int, clues []impl.Clue) []impl.Ladders {
	var all []impl.Ladders
	for left := 1; left <= 12; left++ {
		for right := 1; right <= 12; right++ {
			l := impl.Ladders{Wide: wide, Left: left, Right: right}
			if !slices.ContainsFunc(clues, func(c impl.Clue) bool { return !factsOf(l).fit(c) }) {
				all = append(all, l)
			}
		}
	}
	return all
}

func manyBySearch(wide int, clues ...impl.Clue) int {
	return len(solutionsBySearch(wide, clues))
}

// without is all clues but one, in new memory.
func without(clues []impl.Clue, k int) []impl.Clue {
	return slices.Delete(slices.Clone(clues), k, k+1)
}

// limitsOfClues are the greatest A, the least B and the greatest B of each kind.
var limitsOfClues = [6][3]int{{0, 0, 200}, {0, 0, 1}, {200, 1, 200}, {1, 0, 1}, {200, 1, 200}, {0, 0, 200}}

func isClueByLimits(c impl.Clue) bool {
	if c.Kind < 0 || c.Kind > 5 {
		return false
	}
	limits := limitsOfClues[c.Kind]
	return c.A >= 0 && c.A <= limits[0] && c.B >= limits[1] && c.B <= limits[2]
}

// noClues are clues of no Wide: a number is out of its limits by one, or by far.
func noClues() []impl.Clue {
	all := []impl.Clue{{Kind: -1}, {Kind: 6}, {Kind: 6, A: 1, B: 1}, {Kind: 2}, {Kind: 4}}
	for kind, limits := range limitsOfClues {
		most := impl.Clue{Kind: kind, A: limits[0], B: limits[2]}
		for _, n := range append([]int{limits[0] + 1, limits[1] - 1, limits[2] + 1}, puzzleNumbers...) {
			for _, c := range []impl.Clue{{Kind: kind, A: n, B: most.B}, {Kind: kind, A: most.A, B: n}, {Kind: n, A: most.A, B: most.B}, {Kind: n, A: n, B: n}} {
				if !isClueByLimits(c) {
					all = append(all, c)
				}
			}
		}
	}
	return all
}

func parsedPuzzle(t *testing.T, s string) impl.Puzzle {
	t.Helper()
	p, ok := impl.ParsePuzzle(s)
	if !ok {
		t.Fatal(s, "is a puzzle")
	}
	return p
}

// samePuzzle tells whether two puzzles are equal, no clues being no clues however they are kept.
func samePuzzle(p impl.Puzzle, q impl.Puzzle) bool {
	return p.Wide == q.Wide && slices.Equal(p.Clues, q.Clues)
}

// samplePuzzles are puzzles of all Wides: most tell facts of hidden ladders only, some a clue more than that, which these do not fit, some any clues.
func samplePuzzles() []impl.Puzzle {
	z := 11
	next := func(below int) int {
		z = (z*269 + 1361) % 10007
		return z % below
	}
	anyClue := func() impl.Clue {
		kind := next(6)
		limits := limitsOfClues[kind]
		most := []int{limits[2], min(limits[2], 12)}[next(2)]
		return impl.Clue{Kind: kind, A: next(min(limits[0], 12) + 1), B: limits[1] + next(most-limits[1]+1)}
	}
	var all []impl.Puzzle
	for i := range 1500 {
		p := impl.Puzzle{Wide: 1 + i%12}
		facts := factsOfHidden[i%12][next(12)][next(12)]
		for range next(7) {
			p.Clues = append(p.Clues, facts.clueFor(next(6), next(2)))
		}
		if i%5 == 0 && len(p.Clues) > 0 {
			p.Clues[next(len(p.Clues))] = anyClue()
		}
		if i%11 == 0 {
			for k := range p.Clues {
				p.Clues[k] = anyClue()
			}
		}
		all = append(all, p)
	}
	return all
}

// puzzleCase is what the functions tell of a puzzle: best is -1, and first and harder are empty, if they fail.
type puzzleCase struct {
	text        string
	many        int
	first       string
	left, right int
	needless    []int
	leftBy      []int
	best        int
	harder      string
}

var puzzleCases = []puzzleCase{
	// The examples of the chapter.
	{"4w2.2.1,1.0.1", 1, "4:6/3", 6, 3, nil, []int{144, 3, 1}, 0, "4w2.2.1,1.0.1"},
	{"4w3.0.1,5.0.9", 1, "4:3/3", 3, 3, nil, []int{144, 12, 1}, 1, "4w3.0.1,5.0.9"},
	{"4w0.0.24", 1, "4:12/12", 12, 12, nil, []int{144, 1}, 0, "4w0.0.24"},
	// No clues.
	{"4w", 144, "4:1/1", -1, -1, nil, []int{144}, -1, ""},
	{"1w", 144, "1:1/1", -1, -1, nil, []int{144}, -1, ""},
	{"12w", 144, "12:1/1", -1, -1, nil, []int{144}, -1, ""},
	// Solved, with needless clues: those that are first are taken out, the last one that is needed stays.
	{"4w0.0.24,0.0.24", 1, "4:12/12", 12, 12, []int{0, 1}, []int{144, 1, 1}, 0, "4w0.0.24"},
	{"4w0.0.24,1.0.0,5.0.144", 1, "4:12/12", 12, 12, []int{0, 1, 2}, []int{144, 1, 1, 1}, 0, "4w5.0.144"},
	{"4w0.0.24,1.0.0", 1, "4:12/12", 12, 12, []int{1}, []int{144, 1, 1}, 0, "4w0.0.24"},
	{"4w1.0.0,0.0.24", 1, "4:12/12", 12, 12, []int{0}, []int{144, 78, 1}, 1, "4w0.0.24"},
	{"4w2.2.1,5.0.18,1.0.1", 1, "4:6/3", 6, 3, []int{1}, []int{144, 3, 2, 1}, 0, "4w2.2.1,1.0.1"},
	{"4w2.2.1,1.0.1,0.0.9", 1, "4:6/3", 6, 3, []int{2}, []int{144, 3, 1, 1}, 0, "4w2.2.1,1.0.1"},
	{"12w3.0.1,3.1.1,1.0.1", 1, "12:9/5", 9, 5, nil, []int{144, 24, 4, 1}, 0, "12w3.0.1,3.1.1,1.0.1"},
	// As many clues as there may be.
	{"12w3.0.1,3.1.1,1.0.1,0.0.14,5.0.45,2.45.14", 1, "12:9/5", 9, 5, []int{0, 1, 3, 4, 5}, []int{144, 24, 4, 1, 1, 1, 1}, 4, "12w1.0.1,2.45.14"},
	{"2w1.0.0,1.0.0,1.0.0,1.0.0,1.0.0,1.0.0", 78, "2:1/1", -1, -1, []int{0, 1, 2, 3, 4, 5}, []int{144, 78, 78, 78, 78, 78, 78}, 0, ""},
	// No solution.
	{"4w0.0.1", 0, "", 0, 0, nil, []int{144, 0}, 0, ""},
	{"4w0.0.1,5.0.0", 0, "", 0, 0, []int{0, 1}, []int{144, 0, 0}, 0, ""},
	{"4w1.0.1,1.0.0", 0, "", 0, 0, nil, []int{144, 66, 0}, 0, ""},
	{"4w1.0.0,1.0.1", 0, "", 0, 0, nil, []int{144, 78, 0}, 1, ""},
	{"4w0.0.200,5.0.200", 0, "", 0, 0, []int{0, 1}, []int{144, 0, 0}, 0, ""},
	{"4w5.0.13,0.0.24", 0, "", 0, 0, []int{1}, []int{144, 0, 0}, 0, ""},
	{"4w0.0.25", 0, "", 0, 0, nil, []int{144, 0}, 0, ""},
	{"4w5.0.145", 0, "", 0, 0, nil, []int{144, 0}, 0, ""},
	{"1w3.0.1", 0, "", 0, 0, nil, []int{144, 0}, 0, ""},
	// Not in lowest terms, or a crossing at 0.
	{"4w2.4.2", 0, "", 0, 0, nil, []int{144, 0}, 0, ""},
	{"4w2.4.2,0.0.24", 0, "", 0, 0, []int{1}, []int{144, 0, 0}, 0, ""},
	{"5w4.10.4", 0, "", 0, 0, nil, []int{144, 0}, 0, ""},
	{"4w2.0.1", 0, "", 0, 0, nil, []int{144, 0}, 0, ""},
	{"4w4.0.2", 0, "", 0, 0, nil, []int{144, 0}, 0, ""},
	{"4w2.200.200,4.200.200", 0, "", 0, 0, []int{0, 1}, []int{144, 0, 0}, 0, ""},
	// Several solutions.
	{"4w5.0.6", 4, "4:1/6", -1, -1, nil, []int{144, 4}, 0, ""},
	{"4w0.0.3", 2, "4:1/2", -1, -1, nil, []int{144, 2}, 0, ""},
	{"4w3.0.1", 12, "4:3/1", 3, -1, nil, []int{144, 12}, 0, ""},
	{"4w3.1.1", 12, "4:1/3", -1, 3, nil, []int{144, 12}, 0, ""},
	{"4w3.0.0", 132, "4:1/1", -1, -1, nil, []int{144, 132}, 0, ""},
	{"1w3.0.0", 144, "1:1/1", -1, -1, []int{0}, []int{144, 144}, 0, ""},
	{"12w3.0.1", 24, "12:5/1", -1, -1, nil, []int{144, 24}, 0, ""},
	{"5w4.5.2", 12, "5:1/1", -1, -1, nil, []int{144, 12}, 0, ""},
	{"12w4.6.1,1.0.0", 12, "12:1/1", -1, -1, []int{1}, []int{144, 12, 12}, 0, ""},
	// Just one by a crossing.
	{"4w4.8.3,5.0.18", 1, "4:6/3", 6, 3, nil, []int{144, 6, 1}, 1, "4w4.8.3,5.0.18"},
	{"4w2.6.1", 1, "4:12/12", 12, 12, nil, []int{144, 1}, 0, "4w2.6.1"},
	{"4w2.1.2", 1, "4:1/1", 1, 1, nil, []int{144, 1}, 0, "4w2.1.2"},
	{"7w4.84.13", 1, "7:12/1", 12, 1, nil, []int{144, 1}, 0, "7w4.84.13"},
}

func TestPuzzleCases(t *testing.T) {
	for _, c := range puzzleCases {
		p := parsedPuzzle(t, c.text)
		if many, ok := impl.CountSolutions(p); many != c.many || !ok {
			t.Error(c.text, "CountSolutions", many, ok)
		}
		first, ok := impl.FirstSolution(p)
		if text, _ := impl.LaddersText(first); text != c.first || ok != (c.first != "") || !ok && first != (impl.Ladders{}) {
			t.Error(c.text, "FirstSolution", first, ok)
		}
		if left, right, ok := impl.SureHeights(p); left != c.left || right != c.right || ok != (c.many > 0) {
			t.Error(c.text, "SureHeights", left, right, ok)
		}
		if solved, ok := impl.IsSolved(p); solved != (c.many == 1) || !ok {
			t.Error(c.text, "IsSolved", solved, ok)
		}
		if needless, ok := impl.NeedlessClues(p); !slices.Equal(needless, c.needless) || !ok {
			t.Error(c.text, "NeedlessClues", needless, ok)
		}
		if left, ok := impl.LeftByClues(p); !slices.Equal(left, c.leftBy) || !ok {
			t.Error(c.text, "LeftByClues", left, ok)
		}
		if best, ok := impl.BestClue(p); best != max(c.best, 0) || ok != (c.best >= 0) {
			t.Error(c.text, "BestClue", best, ok)
		}
		harder, ok := impl.HarderPuzzle(p)
		if text, _ := impl.PuzzleText(harder); text != c.harder || ok != (c.harder != "") || !ok && !samePuzzle(harder, impl.Puzzle{}) {
			t.Error(c.text, "HarderPuzzle", harder, ok)
		}
	}
}

// Promise 9: solutions fit all clues, and nothing else is a solution.
func TestSolutions(t *testing.T) {
	solved, several, none := 0, 0, 0
	for _, p := range samplePuzzles() {
		if !impl.IsPuzzle(p) {
			t.Fatal(p, "is a puzzle")
		}
		want := solutionsBySearch(p.Wide, p.Clues)
		got, ok := impl.Solutions(p)
		if !slices.Equal(got, want) || !ok {
			t.Fatal(p, got, want, ok)
		}
		for _, l := range got {
			for _, c := range p.Clues {
				if fit, ok := impl.DoesFit(c, l); !fit || !ok {
					t.Fatal(p, c, l, fit, ok)
				}
			}
		}
		if many, ok := impl.CountSolutions(p); many != len(want) || !ok {
			t.Fatal(p, "CountSolutions", many, ok)
		}
		if is, ok := impl.IsSolved(p); is != (len(want) == 1) || !ok {
			t.Fatal(p, "IsSolved", is, ok)
		}
		checkFirstAndSure(t, p, want)
		switch len(want) {
		case 0:
			none++
		case 1:
			solved++
		default:
			several++
		}
	}
	if solved < 200 || several < 200 || none < 200 {
		t.Error("not enough of each", solved, several, none)
	}
}

func checkFirstAndSure(t *testing.T, p impl.Puzzle, solutions []impl.Ladders) {
	t.Helper()
	first, ok := impl.FirstSolution(p)
	if len(solutions) == 0 {
		if first != (impl.Ladders{}) || ok {
			t.Fatal(p, "FirstSolution", first, ok)
		}
		failsWithZeros(t, p, func() (int, int, bool) { return impl.SureHeights(p) })
		return
	}
	if first != solutions[0] || !ok {
		t.Fatal(p, "FirstSolution", first, ok)
	}
	// A height is sure if there is but one of its side.
	lefts, rights := map[int]bool{}, map[int]bool{}
	for _, l := range solutions {
		lefts[l.Left], rights[l.Right] = true, true
	}
	left, right := solutions[0].Left, solutions[0].Right
	if len(lefts) > 1 {
		left = -1
	}
	if len(rights) > 1 {
		right = -1
	}
	if a, b, ok := impl.SureHeights(p); a != left || b != right || !ok {
		t.Fatal(p, "SureHeights", a, b, ok)
	}
}

func TestDoesFit(t *testing.T) {
	// All clues that there are, for some ladders.
	for _, l := range []impl.Ladders{{Wide: 4, Left: 6, Right: 3}, {Wide: 12, Left: 12, Right: 12}, {Wide: 1, Left: 1, Right: 1}, {Wide: 12, Left: 9, Right: 5}, {Wide: 7, Left: 12, Right: 1}, {Wide: 4, Left: 3, Right: 4}} {
		for kind, limits := range limitsOfClues {
			for a := 0; a <= limits[0]; a++ {
				for b := limits[1]; b <= limits[2]; b++ {
					checkFit(t, impl.Clue{Kind: kind, A: a, B: b}, l)
				}
			}
		}
	}
	// For all ladders, what they fit, and what is close to it.
	hiddenLadders(func(l impl.Ladders) {
		for kind := range limitsOfClues {
			for which := range 2 {
				c := factsOf(l).clueFor(kind, which)
				if fit, ok := impl.DoesFit(c, l); !fit || !ok {
					t.Fatal(c, l, fit, ok)
				}
				for _, near := range []impl.Clue{{Kind: kind, A: c.A + 1, B: c.B}, {Kind: kind, A: c.A, B: c.B + 1}, {Kind: kind, A: c.A, B: c.B - 1}, {Kind: kind, A: c.B, B: c.A}, {Kind: kind, A: 2 * c.A, B: 2 * c.B}, {Kind: kind, A: c.A, B: 1 - c.B}} {
					checkFit(t, near, l)
				}
			}
		}
	})
}

func checkFit(t *testing.T, c impl.Clue, l impl.Ladders) {
	t.Helper()
	isClue := isClueByLimits(c)
	fit, ok := impl.DoesFit(c, l)
	if ok != isClue || fit != (isClue && factsOf(l).fit(c)) {
		t.Fatal(c, l, fit, ok)
	}
}

// Only hidden ladders are asked, and only by clues.
func TestDoesFitFails(t *testing.T) {
	checkFails := func(c impl.Clue, l impl.Ladders) {
		t.Helper()
		if fit, ok := impl.DoesFit(c, l); fit || ok {
			t.Fatal(c, l, fit, ok)
		}
	}
	for _, c := range noClues() {
		checkFails(c, impl.Ladders{Wide: 4, Left: 6, Right: 3})
		checkFails(c, impl.Ladders{})
	}
	for _, n := range puzzleNumbers {
		if n >= 1 && n <= 12 {
			continue
		}
		for _, l := range []impl.Ladders{{Wide: n, Left: 6, Right: 3}, {Wide: 4, Left: n, Right: 3}, {Wide: 4, Left: 6, Right: n}, {Wide: n, Left: n, Right: n}} {
			for kind := range limitsOfClues {
				checkFails(impl.Clue{Kind: kind, B: 1}, l)
			}
			checkFails(impl.Clue{Kind: 0, B: l.Left + l.Right}, l)
			checkFails(impl.Clue{Kind: 5, B: l.Left * l.Right}, l)
		}
	}
	// These lean as the clue tells, but one is too high by one, or the corridor too wide.
	checkFails(impl.Clue{Kind: 0, B: 14}, impl.Ladders{Wide: 4, Left: 13, Right: 1})
	checkFails(impl.Clue{Kind: 5, B: 13}, impl.Ladders{Wide: 4, Left: 1, Right: 13})
	checkFails(impl.Clue{Kind: 2, A: 2, B: 1}, impl.Ladders{Wide: 13, Left: 6, Right: 3})
}

func TestIsClue(t *testing.T) {
	for kind := -1; kind <= 6; kind++ {
		for a := -1; a <= 201; a++ {
			for b := -1; b <= 201; b++ {
				c := impl.Clue{Kind: kind, A: a, B: b}
				want := isClueByLimits(c)
				if got := impl.IsClue(4, c); got != want {
					t.Fatal(c, got)
				}
				if impl.IsClue(1, c) != want || impl.IsClue(12, c) != want || impl.IsClue(0, c) || impl.IsClue(13, c) {
					t.Fatal(c, "whatever Wide is")
				}
			}
		}
	}
	for _, wide := range puzzleNumbers {
		isWide := wide >= 1 && wide <= 12
		for _, c := range noClues() {
			if impl.IsClue(wide, c) {
				t.Fatal(wide, c)
			}
		}
		for kind, limits := range limitsOfClues {
			for _, c := range []impl.Clue{{Kind: kind, A: limits[0], B: limits[2]}, {Kind: kind, B: limits[1]}} {
				if got := impl.IsClue(wide, c); got != isWide {
					t.Fatal(wide, c, got)
				}
			}
		}
	}
}

// checkNoPuzzle checks that every call with a puzzle fails, and that every other result is zero.
func checkNoPuzzle(t *testing.T, p impl.Puzzle) {
	t.Helper()
	if impl.IsPuzzle(p) {
		t.Fatal(p, "is no puzzle")
	}
	if all, ok := impl.Solutions(p); len(all) != 0 || ok {
		t.Fatal(p, "Solutions", all, ok)
	}
	if many, ok := impl.CountSolutions(p); many != 0 || ok {
		t.Fatal(p, "CountSolutions", many, ok)
	}
	if l, ok := impl.FirstSolution(p); l != (impl.Ladders{}) || ok {
		t.Fatal(p, "FirstSolution", l, ok)
	}
	failsWithZeros(t, p, func() (int, int, bool) { return impl.SureHeights(p) })
	if solved, ok := impl.IsSolved(p); solved || ok {
		t.Fatal(p, "IsSolved", solved, ok)
	}
	if needless, ok := impl.NeedlessClues(p); len(needless) != 0 || ok {
		t.Fatal(p, "NeedlessClues", needless, ok)
	}
	if left, ok := impl.LeftByClues(p); len(left) != 0 || ok {
		t.Fatal(p, "LeftByClues", left, ok)
	}
	if best, ok := impl.BestClue(p); best != 0 || ok {
		t.Fatal(p, "BestClue", best, ok)
	}
	if text, ok := impl.PuzzleText(p); text != "" || ok {
		t.Fatal(p, "PuzzleText", text, ok)
	}
	isNone := func(what string, q impl.Puzzle, ok bool) {
		t.Helper()
		if !samePuzzle(q, impl.Puzzle{}) || ok {
			t.Fatal(p, what, q, ok)
		}
	}
	harder, ok := impl.HarderPuzzle(p)
	isNone("HarderPuzzle", harder, ok)
	for _, k := range []int{0, len(p.Clues) - 1, len(p.Clues), -1} {
		dropped, ok := impl.DropClue(p, k)
		isNone("DropClue", dropped, ok)
	}
	added, ok := impl.AddClue(p, impl.Clue{Kind: 0, B: 24})
	isNone("AddClue", added, ok)
}

func TestNoPuzzles(t *testing.T) {
	sum := impl.Clue{Kind: 0, B: 24}
	for _, n := range puzzleNumbers {
		if n < 1 || n > 12 {
			checkNoPuzzle(t, impl.Puzzle{Wide: n})
			checkNoPuzzle(t, impl.Puzzle{Wide: n, Clues: []impl.Clue{sum}})
			checkNoPuzzle(t, impl.Puzzle{Wide: n, Clues: []impl.Clue{{Kind: 1, B: 1}, sum}})
		}
	}
	for _, c := range noClues() {
		checkNoPuzzle(t, impl.Puzzle{Wide: 4, Clues: []impl.Clue{c}})
		checkNoPuzzle(t, impl.Puzzle{Wide: 4, Clues: []impl.Clue{c, sum}})
		checkNoPuzzle(t, impl.Puzzle{Wide: 4, Clues: []impl.Clue{sum, sum, sum, sum, sum, c}})
		checkNoPuzzle(t, impl.Puzzle{Wide: 13, Clues: []impl.Clue{c}})
	}
	// A clue more than there may be, and far too many.
	for _, many := range []int{7, 8, 100, 100000} {
		checkNoPuzzle(t, impl.Puzzle{Wide: 4, Clues: slices.Repeat([]impl.Clue{sum}, many)})
		checkNoPuzzle(t, impl.Puzzle{Wide: 4, Clues: make([]impl.Clue, many)})
	}
	if !impl.IsPuzzle(impl.Puzzle{Wide: 4, Clues: slices.Repeat([]impl.Clue{sum}, 6)}) {
		t.Error("six clues are a puzzle")
	}
	// 0.0.0 is a clue that no ladders fit: so is what is in empty memory.
	if !impl.IsPuzzle(impl.Puzzle{Wide: 4, Clues: make([]impl.Clue, 6)}) {
		t.Error("clues of a sum of 0 are a puzzle")
	}
	if !impl.IsPuzzle(impl.Puzzle{Wide: 4, Clues: []impl.Clue{}}) || !impl.IsPuzzle(impl.Puzzle{Wide: 4}) {
		t.Error("no clues are a puzzle")
	}
}

func TestNeedlessAndBestClues(t *testing.T) {
	for _, p := range samplePuzzles() {
		many := manyBySearch(p.Wide, p.Clues...)
		var needless, alone []int
		left := []int{144}
		for k, c := range p.Clues {
			if manyBySearch(p.Wide, without(p.Clues, k)...) == many {
				needless = append(needless, k)
			}
			alone = append(alone, manyBySearch(p.Wide, c))
			left = append(left, manyBySearch(p.Wide, p.Clues[:k+1]...))
		}
		if got, ok := impl.NeedlessClues(p); !slices.Equal(got, needless) || !ok {
			t.Fatal(p, "NeedlessClues", got, needless, ok)
		}
		if got, ok := impl.LeftByClues(p); !slices.Equal(got, left) || !ok {
			t.Fatal(p, "LeftByClues", got, left, ok)
		}
		best, ok := impl.BestClue(p)
		if ok != (len(p.Clues) > 0) || !ok && best != 0 || ok && best != slices.Index(alone, slices.Min(alone)) {
			t.Fatal(p, "BestClue", best, alone, ok)
		}
	}
}

// Promise 9: harder puzzles are solved by the same ladders, and there is no clue left that could be taken out of them.
func TestHarderPuzzles(t *testing.T) {
	shorter := 0
	for _, p := range samplePuzzles() {
		got, ok := impl.HarderPuzzle(p)
		solutions := solutionsBySearch(p.Wide, p.Clues)
		if len(solutions) != 1 {
			if !samePuzzle(got, impl.Puzzle{}) || ok {
				t.Fatal(p, got, ok)
			}
			continue
		}
		// Each clue in its turn, at first the first one: what is left are all that had to stay.
		stay, isOut := []impl.Clue{}, make([]bool, len(p.Clues))
		for k := range p.Clues {
			isOut[k] = true
			var others []impl.Clue
			for j, c := range p.Clues {
				if !isOut[j] {
					others = append(others, c)
				}
			}
			if manyBySearch(p.Wide, others...) != 1 {
				isOut[k] = false
				stay = append(stay, p.Clues[k])
			}
		}
		if !samePuzzle(got, impl.Puzzle{Wide: p.Wide, Clues: stay}) || !ok {
			t.Fatal(p, got, stay, ok)
		}
		if same, ok := impl.Solutions(got); !slices.Equal(same, solutions) || !ok {
			t.Fatal(p, got, "is solved by", same, ok)
		}
		if needless, ok := impl.NeedlessClues(got); len(needless) != 0 || !ok {
			t.Fatal(p, got, needless, ok)
		}
		if len(stay) < len(p.Clues) {
			shorter++
		}
	}
	if shorter < 100 {
		t.Error("not enough clues are taken out", shorter)
	}
}

func TestDropAndAddClues(t *testing.T) {
	sum := impl.Clue{Kind: 0, B: 24}
	for _, p := range samplePuzzles() {
		for k := range p.Clues {
			got, ok := impl.DropClue(p, k)
			if !samePuzzle(got, impl.Puzzle{Wide: p.Wide, Clues: without(p.Clues, k)}) || !ok {
				t.Fatal(p, k, got, ok)
			}
			// Put back behind the others, the clue is there again.
			back, ok := impl.AddClue(got, p.Clues[k])
			if !samePuzzle(back, impl.Puzzle{Wide: p.Wide, Clues: append(without(p.Clues, k), p.Clues[k])}) || !ok {
				t.Fatal(p, k, back, ok)
			}
		}
		for _, k := range append([]int{-1, len(p.Clues), len(p.Clues) + 1}, puzzleNumbers...) {
			if k >= 0 && k < len(p.Clues) {
				continue
			}
			if got, ok := impl.DropClue(p, k); !samePuzzle(got, impl.Puzzle{}) || ok {
				t.Fatal(p, k, got, ok)
			}
		}
		got, ok := impl.AddClue(p, sum)
		want := impl.Puzzle{Wide: p.Wide, Clues: append(slices.Clone(p.Clues), sum)}
		if len(p.Clues) == 6 {
			want = impl.Puzzle{}
		}
		if !samePuzzle(got, want) || ok != (len(p.Clues) < 6) {
			t.Fatal(p, got, ok)
		}
	}
	for _, c := range noClues() {
		for _, text := range []string{"4w", "4w0.0.24", "4w0.0.24,1.0.0,1.0.0,1.0.0,1.0.0"} {
			if got, ok := impl.AddClue(parsedPuzzle(t, text), c); !samePuzzle(got, impl.Puzzle{}) || ok {
				t.Fatal(text, c, got, ok)
			}
		}
	}
}

func TestSomeDroppedAndAddedClues(t *testing.T) {
	for _, c := range []struct {
		text string
		k    int
		want string
	}{
		{"4w2.2.1,1.0.1", 0, "4w1.0.1"}, // the first one
		{"4w2.2.1,1.0.1", 1, "4w2.2.1"}, // the last one
		{"4w2.2.1,1.0.1,5.0.18", 1, "4w2.2.1,5.0.18"},
		{"4w2.2.1", 0, "4w"}, // the only one
		{"4w2.2.1", 1, ""},
		{"4w2.2.1", -1, ""},
		{"4w", 0, ""},
		{"4w", -1, ""},
		{"4w0.0.1,0.0.2,0.0.3,0.0.4,0.0.5,0.0.6", 0, "4w0.0.2,0.0.3,0.0.4,0.0.5,0.0.6"},
		{"4w0.0.1,0.0.2,0.0.3,0.0.4,0.0.5,0.0.6", 5, "4w0.0.1,0.0.2,0.0.3,0.0.4,0.0.5"},
		{"4w0.0.1,0.0.2,0.0.3,0.0.4,0.0.5,0.0.6", 6, ""},
	} {
		got, ok := impl.DropClue(parsedPuzzle(t, c.text), c.k)
		if text, _ := impl.PuzzleText(got); text != c.want || ok != (c.want != "") {
			t.Error(c, got, ok)
		}
	}
	for _, c := range []struct {
		text string
		clue impl.Clue
		want string
	}{
		{"4w", impl.Clue{Kind: 2, A: 2, B: 1}, "4w2.2.1"},
		{"4w2.2.1", impl.Clue{Kind: 1, B: 1}, "4w2.2.1,1.0.1"},
		{"4w2.2.1", impl.Clue{Kind: 2, A: 2, B: 1}, "4w2.2.1,2.2.1"}, // once more
		{"4w2.2.1", impl.Clue{Kind: 2, A: 4, B: 2}, "4w2.2.1,2.4.2"}, // not in lowest terms
		{"4w2.2.1", impl.Clue{Kind: 2, A: 200, B: 200}, "4w2.2.1,2.200.200"},
		{"4w2.2.1", impl.Clue{Kind: 2, A: 201, B: 200}, ""},
		{"4w2.2.1", impl.Clue{Kind: 6}, ""},
		{"4w0.0.1,0.0.2,0.0.3,0.0.4,0.0.5", impl.Clue{Kind: 0, B: 6}, "4w0.0.1,0.0.2,0.0.3,0.0.4,0.0.5,0.0.6"}, // just MaxClues
		{"4w0.0.1,0.0.2,0.0.3,0.0.4,0.0.5,0.0.6", impl.Clue{Kind: 0, B: 7}, ""},                                // one more
	} {
		got, ok := impl.AddClue(parsedPuzzle(t, c.text), c.clue)
		if text, _ := impl.PuzzleText(got); text != c.want || ok != (c.want != "") {
			t.Error(c, got, ok)
		}
	}
}

// madeByNumbers is the puzzle that is made of ladders, by the numbers behind the seed, two of them for each clue.
func madeByNumbers(l impl.Ladders, clues int, seed int) impl.Puzzle {
	numbers := []int{seed}
	for k := range 2 * clues {
		numbers = append(numbers, (numbers[k]*269+1361)%10007)
	}
	p := impl.Puzzle{Wide: l.Wide}
	for k := range clues {
		p.Clues = append(p.Clues, factsOf(l).clueFor(numbers[2*k+1]%6, numbers[2*k+2]%2))
	}
	return p
}

// Promise 9: the ladders of which a puzzle is made are among its solutions.
func TestMakePuzzle(t *testing.T) {
	check := func(l impl.Ladders, clues int, seed int) {
		t.Helper()
		got, ok := impl.MakePuzzle(l, clues, seed)
		if !samePuzzle(got, madeByNumbers(l, clues, seed)) || !impl.IsPuzzle(got) || !ok {
			t.Fatal(l, clues, seed, got, ok)
		}
		for _, c := range got.Clues {
			if fit, ok := impl.DoesFit(c, l); !fit || !ok {
				t.Fatal(l, clues, seed, got, c, fit, ok)
			}
		}
	}
	for seed := range 10000 {
		check(impl.Ladders{Wide: 4, Left: 6, Right: 3}, 6, seed)
		check(impl.Ladders{Wide: 12, Left: 2, Right: 5}, seed%7, seed)
	}
	hiddenLadders(func(l impl.Ladders) {
		for clues := range 7 {
			check(l, clues, 0)
			check(l, clues, 9999)
			check(l, clues, l.Left*700+l.Right*90+l.Wide)
		}
		made, _ := impl.MakePuzzle(l, 6, l.Left*800+l.Right)
		if solutions, ok := impl.Solutions(made); !slices.Contains(solutions, l) || !ok {
			t.Fatal(l, made, solutions, ok)
		}
	})
}

func TestSomeMadePuzzles(t *testing.T) {
	for _, c := range []struct {
		ladders     string
		clues, seed int
		want        string
	}{
		// Of 0 the numbers are 1361, 7218, 1645, 3558, 7798, 7560, ..
		{"4:6/3", 0, 0, "4w"},
		{"4:6/3", 1, 0, "4w5.0.18"},
		{"4:6/3", 2, 0, "4w5.0.18,1.0.1"},
		{"4:6/3", 3, 0, "4w5.0.18,1.0.1,4.8.3"},
		{"4:3/6", 3, 0, "4w5.0.18,1.0.0,4.4.3"},
		// Of 6 they are 2975, 1076, of 8 they are 3513, 5700, of 9 they are 3782, 8012, ..
		{"3:5/4", 1, 6, "3w5.0.20"},
		{"3:5/4", 1, 8, "3w3.0.0"}, // y is even: the left ladder
		{"3:4/5", 1, 8, "3w3.0.1"},
		{"3:5/4", 1, 9, "3w2.20.9"},
		// Of 2 they are 1899, 1835, ..
		{"3:5/4", 1, 2, "3w3.1.1"}, // y is odd: the right ladder
		{"3:4/5", 1, 2, "3w3.1.0"},
		{"4:6/3", 7, 0, ""},
		{"4:6/3", -1, 0, ""},
		{"4:6/3", 1, -1, ""},
		{"4:6/3", 1, 10000, ""},
		{"4:6/3", 0, 10000, ""},
		{"4:6/3", 0, -1, ""},
		{"13:6/3", 1, 0, ""}, // ladders, but not hidden ones
		{"4:13/3", 1, 0, ""},
		{"4:6/13", 1, 0, ""},
		{"4:6/13", 0, 0, ""},
	} {
		l, _ := impl.ParseLadders(c.ladders)
		got, ok := impl.MakePuzzle(l, c.clues, c.seed)
		if text, _ := impl.PuzzleText(got); text != c.want || ok != (c.want != "") || !ok && !samePuzzle(got, impl.Puzzle{}) {
			t.Error(c, text, ok)
		}
	}
	for _, n := range puzzleNumbers {
		l := impl.Ladders{Wide: 4, Left: 6, Right: 3}
		if p, ok := impl.MakePuzzle(l, n, 7); ok != (n >= 0 && n <= 6) || !ok && !samePuzzle(p, impl.Puzzle{}) || ok && len(p.Clues) != n {
			t.Error(n, "clues", p, ok)
		}
		if p, ok := impl.MakePuzzle(l, 3, n); ok != (n >= 0 && n <= 9999) || !ok && !samePuzzle(p, impl.Puzzle{}) {
			t.Error(n, "seed", p, ok)
		}
		for _, l := range []impl.Ladders{{Wide: n, Left: 6, Right: 3}, {Wide: 4, Left: n, Right: 3}, {Wide: 4, Left: 6, Right: n}, {Wide: n, Left: n, Right: n}} {
			if p, ok := impl.MakePuzzle(l, 3, 7); ok != (n >= 1 && n <= 12) || !ok && !samePuzzle(p, impl.Puzzle{}) {
				t.Error(l, p, ok)
			}
		}
	}
}

func TestPuzzleTexts(t *testing.T) {
	for _, p := range samplePuzzles() {
		want := strconv.Itoa(p.Wide) + "w"
		for k, c := range p.Clues {
			if k > 0 {
				want += ","
			}
			want += strconv.Itoa(c.Kind) + "." + strconv.Itoa(c.A) + "." + strconv.Itoa(c.B)
		}
		if text, ok := impl.PuzzleText(p); text != want || !ok {
			t.Fatal(p, text, ok)
		}
		if back, ok := impl.ParsePuzzle(want); !samePuzzle(back, p) || !ok {
			t.Fatal(want, back, ok)
		}
	}
	for text, p := range map[string]impl.Puzzle{
		"4w2.2.1,1.0.1": {Wide: 4, Clues: []impl.Clue{{Kind: 2, A: 2, B: 1}, {Kind: 1, B: 1}}},
		"1w":            {Wide: 1},
		"12w":           {Wide: 12, Clues: []impl.Clue{}},
		"12w0.0.200,5.0.200,2.200.200,4.200.200,3.1.1,1.0.1": {Wide: 12, Clues: []impl.Clue{
			{Kind: 0, B: 200}, {Kind: 5, B: 200}, {Kind: 2, A: 200, B: 200}, {Kind: 4, A: 200, B: 200}, {Kind: 3, A: 1, B: 1}, {Kind: 1, B: 1}}},
		"12w0.0.0,5.0.0,2.0.1,4.0.1,3.0.0,1.0.0": {Wide: 12, Clues: []impl.Clue{{Kind: 0}, {Kind: 5}, {Kind: 2, B: 1}, {Kind: 4, B: 1}, {Kind: 3}, {Kind: 1}}},
	} {
		if got, ok := impl.ParsePuzzle(text); !samePuzzle(got, p) || !ok {
			t.Error(text, got, ok)
		}
		if got, ok := impl.PuzzleText(p); got != text || !ok {
			t.Error(p, got, ok)
		}
	}
}

// Texts that are almost PuzzleTexts are none.
func TestNoPuzzleTexts(t *testing.T) {
	for _, s := range []string{
		"", "w", "4", "0w", "13w", "-1w", "-4w", "+4w", "04w", "4 w", " 4w", "4w ", "4w\n", "4w\x00", "4W", "4ww", "w4", "4w4w", "4.w", "4,w", "4w,", "4w.", "4w..", "4w0", "w0.0.24", "4x0.0.24", "40.0.24",
		"4w0.0", "4w0.0.", "4w0..24", "4w.0.24", "4w0.0.24.", "4w0.0.24.0", "4w.0.0.24", "4w0.0.24,", "4w,0.0.24", "4w0.0.24,,1.0.1", "4w0.0.24 ,1.0.1", "4w0.0.24, 1.0.1", "4w0.0.24;1.0.1", "4w0.0.24.1.0.1", "4w0,0,24", "4w0.0,24", "4w0/0/24",
		"4w00.0.24", "4w0.00.24", "4w0.0.024", "4w0.0.+24", "4w0.0.-24", "4w-0.0.24", "4w0.-0.24", "4w+0.0.24", "4w0.0.0x18", "4w0.0.2e1", "4w0.0.2_4", "4w0.0.24\n", "\xff4w0.0.24", "4w0.0.24w", "4w0.0.w24",
		"4w6.0.0", "4w-1.0.0", "4w7.0.1", "4w0.1.24", "4w0.0.201", "4w1.0.2", "4w1.1.1", "4w2.2.0", "4w2.0.0", "4w2.201.1", "4w2.1.201", "4w3.2.0", "4w3.0.2", "4w4.2.0", "4w4.201.1", "4w4.1.201", "4w5.1.24", "4w5.0.201",
		"13w0.0.24", "0w0.0.24", "w0.0.24,1.0.1", "4w0.0.24,6.0.0", "4w6.0.0,0.0.24", "4w0.0.24,1.0.2",
		"4w0.0.1,0.0.2,0.0.3,0.0.4,0.0.5,0.0.6,0.0.7", "4w0.0.1,0.0.2,0.0.3,0.0.4,0.0.5,0.0.6,", "4w0.0.1,0.0.2,0.0.3,0.0.4,0.0.5,0.0.6,0.0.7,0.0.8", // more than MaxClues
		"18446744073709551620w", "4w0.0.18446744073709551640", "4w18446744073709551616.0.24", "4w0.18446744073709551616.24", "9223372036854775807w", "4w0.0.9223372036854775807", "4w0.0.-9223372036854775808", "4294967300w", "4w4294967296.0.24", "4w0.4294967296.24", "4w0.0.4294967320",
		"\u0664w0.0.24", "4\uff570.0.24", "56:105/42", "5|1000:123/127", "2@4+3",
		"4w" + strings.Repeat("0.0.24,", 100000) + "0.0.24", strings.Repeat("w", 100000), "4w" + strings.Repeat(",", 100000), "4w0.0.24" + strings.Repeat(".0", 100000), strings.Repeat("4", 100000) + "w", "4w0.0." + strings.Repeat("0", 100000) + "24",
	} {
		if p, ok := impl.ParsePuzzle(s); !samePuzzle(p, impl.Puzzle{}) || ok {
			t.Errorf("%.40q: %v %v", s, p, ok)
		}
	}
	// A text that is parsed is just the text of what it is parsed to: each byte of it counts.
	for _, base := range []string{"4w2.2.1,1.0.1", "12w", "1w5.0.20"} {
		for k := 0; k <= len(base); k++ {
			for c := range 256 {
				for j := k; j <= len(base); j++ {
					s := base[:k] + string([]byte{byte(c)}) + base[j:]
					p, ok := impl.ParsePuzzle(s)
					if text, _ := impl.PuzzleText(p); ok && text != s || !ok && !samePuzzle(p, impl.Puzzle{}) {
						t.Fatalf("%q: %v %v", s, p, ok)
					}
				}
			}
		}
	}
}

// askAll calls every function that takes a puzzle.
func askAll(p impl.Puzzle, k int, c impl.Clue) {
	impl.IsPuzzle(p)
	impl.Solutions(p)
	impl.CountSolutions(p)
	impl.FirstSolution(p)
	impl.SureHeights(p)
	impl.IsSolved(p)
	impl.NeedlessClues(p)
	impl.DropClue(p, k)
	impl.AddClue(p, c)
	impl.LeftByClues(p)
	impl.BestClue(p)
	impl.HarderPuzzle(p)
	impl.PuzzleText(p)
}

// Promise 11: no number makes a call panic, in whatever place it is.
func TestPuzzleCallsNeverPanic(t *testing.T) {
	for _, a := range puzzleNumbers {
		for _, b := range puzzleNumbers {
			for _, n := range puzzleNumbers {
				c := impl.Clue{Kind: a, A: b, B: n}
				isClue := isClueByLimits(c)
				askAll(impl.Puzzle{Wide: n, Clues: []impl.Clue{c, {Kind: 0, B: 24}}}, a, c)
				askAll(impl.Puzzle{Wide: 4, Clues: []impl.Clue{c}}, b, c)
				if impl.IsClue(4, c) != isClue || impl.IsPuzzle(impl.Puzzle{Wide: 4, Clues: []impl.Clue{c, c}}) != isClue {
					t.Fatal(c)
				}
				impl.IsClue(n, c)
				impl.IsClue(a, c)
				l := impl.Ladders{Wide: a, Left: b, Right: n}
				isHidden := min(a, b, n) >= 1 && max(a, b, n) <= 12
				if _, ok := impl.DoesFit(impl.Clue{Kind: 3, A: 1, B: 1}, l); ok != isHidden {
					t.Fatal(l, ok)
				}
				impl.DoesFit(c, l)
				if _, ok := impl.MakePuzzle(l, 6, 7); ok != isHidden {
					t.Fatal(l, ok)
				}
				impl.MakePuzzle(l, a, b)
				impl.MakePuzzle(impl.Ladders{Wide: 4, Left: 6, Right: 3}, a, n)
			}
		}
	}
	askAll(impl.Puzzle{}, 0, impl.Clue{})
	askAll(impl.Puzzle{Wide: 4}, math.MinInt, impl.Clue{Kind: math.MinInt, A: math.MaxInt, B: math.MinInt})
	askAll(impl.Puzzle{Wide: 4, Clues: make([]impl.Clue, 100000)}, 99999, impl.Clue{})
}

// Promise 11: clues are not modified, nor is what lies behind them in the same memory. That is no clue: it decides nothing.
func TestPuzzlesAreNotModified(t *testing.T) {
	for _, p := range samplePuzzles() {
		room := make([]impl.Clue, 12)
		for k := range room {
			room[k] = impl.Clue{Kind: -k, A: -7, B: 300}
		}
		copy(room, p.Clues)
		before := slices.Clone(room)
		roomy := impl.Puzzle{Wide: p.Wide, Clues: room[:len(p.Clues)]}
		for k := range 7 {
			askAll(roomy, k, impl.Clue{Kind: 0, B: 24})
		}
		if !slices.Equal(room, before) || len(roomy.Clues) != len(p.Clues) {
			t.Fatal(p, room)
		}
		wanted, _ := impl.AddClue(p, impl.Clue{Kind: 1, B: 1})
		if got, ok := impl.AddClue(roomy, impl.Clue{Kind: 1, B: 1}); !samePuzzle(got, wanted) || ok != (len(p.Clues) < 6) {
			t.Fatal(roomy, got, ok)
		}
		wanted, _ = impl.HarderPuzzle(p)
		if got, _ := impl.HarderPuzzle(roomy); !samePuzzle(got, wanted) {
			t.Fatal(roomy, got)
		}
	}
}

// Results are new memory: changing a puzzle that is returned changes nothing of the one that was asked, and the other way round.
func TestPuzzlesAreNew(t *testing.T) {
	spoil := func(clues []impl.Clue) {
		for k := range clues {
			clues[k] = impl.Clue{Kind: -1, A: -1, B: -1}
		}
	}
	for _, p := range samplePuzzles() {
		makings := []func(p impl.Puzzle) (impl.Puzzle, bool){
			impl.HarderPuzzle,
			func(p impl.Puzzle) (impl.Puzzle, bool) { return impl.AddClue(p, impl.Clue{Kind: 0, B: 24}) },
		}
		for k := range p.Clues {
			makings = append(makings, func(p impl.Puzzle) (impl.Puzzle, bool) { return impl.DropClue(p, k) })
		}
		for i, making := range makings {
			room := append(slices.Clone(p.Clues), impl.Clue{Kind: -2}, impl.Clue{Kind: -3})
			before := slices.Clone(room)
			asked := impl.Puzzle{Wide: p.Wide, Clues: room[:len(p.Clues)]}
			want, ok := making(asked)
			if !ok {
				continue
			}
			got, _ := making(asked)
			// All the room of the result is its own, also what is behind its length.
			spoil(got.Clues[:cap(got.Clues)])
			if !slices.Equal(room, before) {
				t.Fatal(p, i, "a result shares memory with the puzzle", room)
			}
			kept := slices.Clone(want.Clues)
			spoil(room)
			if !slices.Equal(want.Clues, kept) {
				t.Fatal(p, i, "the puzzle shares memory with a result", want)
			}
		}
	}
}

// Nothing is kept between calls.
func TestPuzzleResultsAreNew(t *testing.T) {
	p := parsedPuzzle(t, "12w3.0.1,3.1.1,1.0.1,0.0.14,5.0.45,2.45.14")
	again := func() []any {
		made, _ := impl.MakePuzzle(impl.Ladders{Wide: 4, Left: 6, Right: 3}, 6, 7)
		parsed, _ := impl.ParsePuzzle("4w2.2.1,1.0.1")
		all, _ := impl.Solutions(impl.Puzzle{Wide: 4})
		needless, _ := impl.NeedlessClues(p)
		left, _ := impl.LeftByClues(p)
		return []any{made.Clues, parsed.Clues, all, needless, left}
	}
	want, spoiled := again(), again()
	for _, list := range spoiled {
		v := reflect.ValueOf(list)
		for k := range v.Len() {
			v.Index(k).SetZero()
		}
	}
	if got := again(); !reflect.DeepEqual(got, want) || reflect.DeepEqual(spoiled, want) {
		t.Error("results are kept between calls", got)
	}
}
