package tests

import (
	"math"
	"math/big"
	"reflect"
	"strconv"
	"strings"
	"testing"

	"loop.example/g01351/impl"
)

// oddNumbers are ints at and around every limit of chapter 1, and at the ends of what an int can be.
var oddNumbers = []int{
	math.MinInt, math.MinInt + 1, -1 << 32, -1001, -1000, -1, 0, 1, 2, 3, 149, 150, 151, 199, 200, 201,
	999, 1000, 1001, 1 << 31, 1 << 32, 1<<32 + 1, 1 << 62, math.MaxInt - 1, math.MaxInt,
}

// sampleLadders are ladders of many shapes, the greatest and the least ones among them.
func sampleLadders() []impl.Ladders {
	sizes := []int{1, 2, 3, 4, 5, 7, 12, 42, 56, 97, 105, 360, 999, 1000}
	var all []impl.Ladders
	for _, wide := range sizes {
		for _, left := range sizes {
			for _, right := range sizes {
				all = append(all, impl.Ladders{Wide: wide, Left: left, Right: right})
			}
		}
	}
	return all
}

// invalidLadders are no ladders: one number, or more, is out of 1..MaxWide.
func invalidLadders() []impl.Ladders {
	all := []impl.Ladders{{}}
	for _, n := range oddNumbers {
		if n < 1 || n > 1000 {
			all = append(all, impl.Ladders{Wide: n, Left: 3, Right: 6}, impl.Ladders{Wide: 8, Left: n, Right: 6},
				impl.Ladders{Wide: 8, Left: 3, Right: n}, impl.Ladders{Wide: n, Left: n, Right: n})
		}
	}
	return all
}

func rat(num int, den int) *big.Rat {
	return big.NewRat(int64(num), int64(den))
}

// toldRat is a fraction that a call told. It has to be in lowest terms, 0 as 0 and 1.
func toldRat(t *testing.T, what string, num int, den int, ok bool) *big.Rat {
	t.Helper()
	if !ok || den < 1 {
		t.Fatalf("%s: %d / %d, %v", what, num, den, ok)
	}
	r := rat(num, den)
	if r.Num().Int64() != int64(num) || r.Denom().Int64() != int64(den) {
		t.Fatalf("%s: %d / %d is not in lowest terms", what, num, den)
	}
	return r
}

func sameRat(t *testing.T, what any, got *big.Rat, want *big.Rat) {
	t.Helper()
	if got.Cmp(want) != 0 {
		t.Fatalf("%v: %v instead of %v", what, got, want)
	}
}

func add(a *big.Rat, b *big.Rat) *big.Rat { return new(big.Rat).Add(a, b) }
func sub(a *big.Rat, b *big.Rat) *big.Rat { return new(big.Rat).Sub(a, b) }
func mul(a *big.Rat, b *big.Rat) *big.Rat { return new(big.Rat).Mul(a, b) }

// heightOf is how high the ladder to the left or to the right wall is at a place, by like triangles.
func heightOf(l impl.Ladders, right bool, place *big.Rat) *big.Rat {
	part := mul(place, rat(1, l.Wide))
	if right {
		return mul(rat(l.Right, 1), part)
	}
	return mul(rat(l.Left, 1), sub(rat(1, 1), part))
}

func higherOf(l impl.Ladders, place *big.Rat) *big.Rat {
	a, b := heightOf(l, false, place), heightOf(l, true, place)
	if a.Cmp(b) > 0 {
		return a
	}
	return b
}

func isSquare(n int) (int, bool) {
	root := int(new(big.Int).Sqrt(big.NewInt(int64(n))).Int64())
	return root, root*root == n
}

func TestLadderExample(t *testing.T) {
	l := impl.Ladders{Wide: 56, Left: 105, Right: 42}
	if got, ok := impl.ParseLadders("56:105/42"); !ok || got != l {
		t.Error("parse", got, ok)
	}
	if a, b, ok := impl.LengthsOf(l); a != 119 || b != 70 || !ok {
		t.Error("lengths", a, b, ok)
	}
	if a, b, ok := impl.SquaresOf(l); a != 14161 || b != 4900 || !ok {
		t.Error("squares", a, b, ok)
	}
	if a, b, ok := impl.CrossHeight(l); a != 30 || b != 1 || !ok {
		t.Error("cross height", a, b, ok)
	}
	if a, b, ok := impl.CrossPlace(l); a != 40 || b != 1 || !ok {
		t.Error("cross place", a, b, ok)
	}
	if whole, ok := impl.IsWholeCrossing(l); !whole || !ok {
		t.Error("whole", whole, ok)
	}
	if a, b, ok := impl.HeightAt(l, false, 28); a != 105 || b != 2 || !ok {
		t.Error("height", a, b, ok)
	}
	if a, b, ok := impl.AreaBelow(l); a != 840 || b != 1 || !ok {
		t.Error("below", a, b, ok)
	}
	if a, b, ok := impl.AreaBetween(l); a != 3276 || b != 1 || !ok {
		t.Error("between", a, b, ok)
	}
	if a, b, ok := impl.OtherHeight(105, 30, 1); a != 42 || b != 1 || !ok {
		t.Error("other", a, b, ok)
	}
	if got, ok := impl.PairsFor(2); !ok || !reflect.DeepEqual(got, [][]int{{3, 6}, {4, 4}}) {
		t.Error("pairs", got, ok)
	}
	if n, ok := impl.LongestStick(impl.Ladders{Wide: 5, Left: 3, Right: 2}); n != 1 || !ok {
		t.Error("stick", n, ok)
	}
}

func TestAreLadders(t *testing.T) {
	for _, l := range sampleLadders() {
		if !impl.AreLadders(l) {
			t.Error(l, "are ladders")
		}
	}
	for _, l := range invalidLadders() {
		if impl.AreLadders(l) {
			t.Error(l, "are no ladders")
		}
	}
}

// Promise 1: where they cross, both ladders are as high, and nowhere above both or below both.
func TestCrossingsAreOnBothLadders(t *testing.T) {
	for _, l := range sampleLadders() {
		num, den, ok := impl.CrossPlace(l)
		place := toldRat(t, "CrossPlace", num, den, ok)
		num, den, ok = impl.CrossHeight(l)
		height := toldRat(t, "CrossHeight", num, den, ok)
		sameRat(t, l, heightOf(l, false, place), height)
		sameRat(t, l, heightOf(l, true, place), height)

		stick, ok := impl.LongestStick(l)
		if !ok || rat(stick, 1).Cmp(height) > 0 || rat(stick+1, 1).Cmp(height) <= 0 {
			t.Fatal(l, "LongestStick", stick, ok, "of", height)
		}
		num, den, ok = impl.AreaBelow(l)
		sameRat(t, l, toldRat(t, "AreaBelow", num, den, ok), mul(rat(l.Wide, 2), height))

		// AreaBetween is below the higher ladder: straight up to the crossing, and straight behind it.
		before := mul(mul(rat(1, 2), place), add(rat(l.Left, 1), height))
		behind := mul(mul(rat(1, 2), sub(rat(l.Wide, 1), place)), add(rat(l.Right, 1), height))
		num, den, ok = impl.AreaBetween(l)
		sameRat(t, l, toldRat(t, "AreaBetween", num, den, ok), add(before, behind))
	}
}

// A crossing may be no whole number, in height, in place, or in both.
func TestCrossingsThatAreNotWhole(t *testing.T) {
	for _, c := range []struct {
		l                                        impl.Ladders
		heightNum, heightDen, placeNum, placeDen int
	}{
		{impl.Ladders{Wide: 5, Left: 3, Right: 2}, 6, 5, 3, 1},
		{impl.Ladders{Wide: 1, Left: 1, Right: 1}, 1, 2, 1, 2},
		{impl.Ladders{Wide: 7, Left: 4, Right: 4}, 2, 1, 7, 2},
		{impl.Ladders{Wide: 10, Left: 2, Right: 4}, 4, 3, 10, 3},
		{impl.Ladders{Wide: 1000, Left: 1000, Right: 999}, 999000, 1999, 1000000, 1999},
		{impl.Ladders{Wide: 1000, Left: 1, Right: 1000}, 1000, 1001, 1000, 1001},
		{impl.Ladders{Wide: 1000, Left: 1000, Right: 1000}, 500, 1, 500, 1},
	} {
		if num, den, ok := impl.CrossHeight(c.l); num != c.heightNum || den != c.heightDen || !ok {
			t.Error(c.l, "CrossHeight", num, den, ok)
		}
		if num, den, ok := impl.CrossPlace(c.l); num != c.placeNum || den != c.placeDen || !ok {
			t.Error(c.l, "CrossPlace", num, den, ok)
		}
	}
}

func TestHeightsAtPlaces(t *testing.T) {
	for _, l := range sampleLadders() {
		for _, place := range []int{0, 1, l.Wide / 3, l.Wide / 2, l.Wide - 1, l.Wide} {
			if place > l.Wide {
				continue
			}
			for _, right := range []bool{false, true} {
				num, den, ok := impl.HeightAt(l, right, place)
				sameRat(t, l, toldRat(t, "HeightAt", num, den, ok), heightOf(l, right, rat(place, 1)))
			}
			num, den, ok := impl.HighestAt(l, place)
			sameRat(t, l, toldRat(t, "HighestAt", num, den, ok), higherOf(l, rat(place, 1)))
		}
		for _, place := range append([]int{l.Wide + 1}, oddNumbers...) {
			if place >= 0 && place <= l.Wide {
				continue
			}
			if a, b, ok := impl.HeightAt(l, false, place); a != 0 || b != 0 || ok {
				t.Fatal(l, "HeightAt", place, a, b, ok)
			}
			if a, b, ok := impl.HeightAt(l, true, place); a != 0 || b != 0 || ok {
				t.Fatal(l, "HeightAt", place, a, b, ok)
			}
			if a, b, ok := impl.HighestAt(l, place); a != 0 || b != 0 || ok {
				t.Fatal(l, "HighestAt", place, a, b, ok)
			}
		}
	}
	l := impl.Ladders{Wide: 5, Left: 3, Right: 2}
	if a, b, ok := impl.HeightAt(l, false, 5); a != 0 || b != 1 || !ok {
		t.Error("the foot of the left ladder", a, b, ok)
	}
	if a, b, ok := impl.HeightAt(l, true, 0); a != 0 || b != 1 || !ok {
		t.Error("the foot of the right ladder", a, b, ok)
	}
}

func TestLengths(t *testing.T) {
	for _, l := range sampleLadders() {
		left, right := l.Wide*l.Wide+l.Left*l.Left, l.Wide*l.Wide+l.Right*l.Right
		if a, b, ok := impl.SquaresOf(l); a != left || b != right || !ok {
			t.Fatal(l, "SquaresOf", a, b, ok)
		}
		leftRoot, leftWhole := isSquare(left)
		rightRoot, rightWhole := isSquare(right)
		a, b, ok := impl.LengthsOf(l)
		if whole := leftWhole && rightWhole; ok != whole || whole && (a != leftRoot || b != rightRoot) || !whole && (a != 0 || b != 0) {
			t.Fatal(l, "LengthsOf", a, b, ok)
		}
		checkIsWhole(t, l, leftWhole && rightWhole && l.Left*l.Right%(l.Left+l.Right) == 0)
	}
	for _, c := range []struct {
		l     impl.Ladders
		whole bool
	}{
		{impl.Ladders{Wide: 3, Left: 4, Right: 4}, true},
		{impl.Ladders{Wide: 4, Left: 3, Right: 3}, false},  // the crossing is 3 / 2 high
		{impl.Ladders{Wide: 5, Left: 12, Right: 6}, false}, // the right length is not whole
		{impl.Ladders{Wide: 5, Left: 6, Right: 12}, false}, // the left length is not whole
		{impl.Ladders{Wide: 5, Left: 3, Right: 6}, false},  // the crossing alone is whole
		{impl.Ladders{Wide: 56, Left: 42, Right: 105}, true},
		{impl.Ladders{Wide: 750, Left: 1000, Right: 1000}, true},
	} {
		checkIsWhole(t, c.l, c.whole)
	}
	// One whole length of two is not enough.
	for _, l := range []impl.Ladders{{Wide: 5, Left: 12, Right: 6}, {Wide: 5, Left: 6, Right: 12}} {
		if a, b, ok := impl.LengthsOf(l); a != 0 || b != 0 || ok {
			t.Error(l, "LengthsOf", a, b, ok)
		}
	}
}

func checkIsWhole(t *testing.T, l impl.Ladders, want bool) {
	t.Helper()
	if got, ok := impl.IsWholeCrossing(l); got != want || !ok {
		t.Fatal(l, "IsWholeCrossing", got, ok)
	}
}

func TestOtherHeight(t *testing.T) {
	for _, l := range sampleLadders() {
		num, den, _ := impl.CrossHeight(l)
		if num > 1000 || den > 1000 {
			continue
		}
		if a, b, ok := impl.OtherHeight(l.Left, num, den); a != l.Right || b != 1 || !ok {
			t.Fatal(l, "OtherHeight", a, b, ok)
		}
	}
	for _, c := range [][5]int{
		{105, 30, 1, 42, 1},
		{105, 60, 2, 42, 1}, // num / den need not be in lowest terms
		{3, 1, 1, 3, 2},
		{1000, 999, 1, 999000, 1},
		{1, 999, 1000, 999, 1},
		{1, 1, 1000, 1, 999},
		{1000, 1, 1000, 1000, 999999},
		{2, 999, 500, 1998, 1}, // the crossing is just below the height
	} {
		if a, b, ok := impl.OtherHeight(c[0], c[1], c[2]); c[3]*b != a*c[4] || !ok {
			t.Error(c, "OtherHeight", a, b, ok)
		} else {
			toldRat(t, "OtherHeight", a, b, ok)
		}
	}
	for _, c := range [][3]int{
		{30, 30, 1}, {30, 31, 1}, {1, 1, 1}, {1, 2, 2}, {2, 1000, 500}, {1, 1000, 999}, // not less than the height
		{0, 1, 2}, {1001, 1, 2}, {-1, 1, 2}, {3, 0, 1}, {3, -1, 1}, {1000, 1001, 2}, {3, 1, 0}, {3, 1, -1}, {3, 1, 1001}, {3, -1, -1},
	} {
		if a, b, ok := impl.OtherHeight(c[0], c[1], c[2]); a != 0 || b != 0 || ok {
			t.Error(c, "OtherHeight", a, b, ok)
		}
	}
}

func TestPairsForCrossings(t *testing.T) {
	for cross := 1; cross <= 200; cross++ {
		pairs, ok := impl.PairsFor(cross)
		if !ok {
			t.Fatal(cross)
		}
		// 1 / cross is 1 / first and 1 / second together: one pair for each divisor up to cross of its square.
		var want [][]int
		for d := 1; d <= cross; d++ {
			if cross*cross%d == 0 {
				want = append(want, []int{cross + d, cross + cross*cross/d})
			}
		}
		if !reflect.DeepEqual(pairs, want) {
			t.Fatal(cross, pairs, want)
		}
		if n, ok := impl.CountPairs(cross); n != len(want) || !ok {
			t.Fatal(cross, "CountPairs", n, ok)
		}
		for _, p := range pairs {
			sameRat(t, cross, add(rat(1, p[0]), rat(1, p[1])), rat(1, cross))
			l := impl.Ladders{Wide: 9, Left: p[0], Right: p[1]}
			if num, den, ok := impl.CrossHeight(l); impl.AreLadders(l) && (num != cross || den != 1 || !ok) {
				t.Fatal(cross, p, num, den, ok)
			}
		}
	}
	if pairs, _ := impl.PairsFor(1); !reflect.DeepEqual(pairs, [][]int{{2, 2}}) {
		t.Error("pairs for 1", pairs)
	}
	if pairs, _ := impl.PairsFor(200); !reflect.DeepEqual(pairs[0], []int{201, 40200}) {
		t.Error("the heights may be greater than MaxWide", pairs[0])
	}
	for _, cross := range oddNumbers {
		if cross >= 1 && cross <= 200 {
			continue
		}
		if pairs, ok := impl.PairsFor(cross); len(pairs) != 0 || ok {
			t.Error("PairsFor", cross, pairs, ok)
		}
		if n, ok := impl.CountPairs(cross); n != 0 || ok {
			t.Error("CountPairs", cross, n, ok)
		}
	}
}

// allWhole finds by looking at all ladders what WholeCrossings of 150 returns, in its order.
func allWhole() []impl.Ladders {
	var all []impl.Ladders
	for wide := 1; wide <= 150; wide++ {
		for left := 1; left <= 150; left++ {
			long, whole := isSquare(wide*wide + left*left)
			if !whole || long > 150 {
				continue
			}
			for right := 1; right <= left; right++ {
				if _, whole := isSquare(wide*wide + right*right); whole && left*right%(left+right) == 0 {
					all = append(all, impl.Ladders{Wide: wide, Left: left, Right: right})
				}
			}
		}
	}
	return all
}

// Promise 1: whole crossings are whole, and all are found.
func TestWholeCrossings(t *testing.T) {
	all := allWhole()
	for most := 1; most <= 150; most++ {
		var want []impl.Ladders
		for _, l := range all {
			if l.Wide*l.Wide+l.Left*l.Left <= most*most {
				want = append(want, l)
			}
		}
		got, ok := impl.WholeCrossings(most)
		if !ok || len(got) != len(want) || len(want) > 0 && !reflect.DeepEqual(got, want) {
			t.Fatal(most, got, want, ok)
		}
		for _, l := range got {
			checkIsWhole(t, l, true)
		}
		checkLowest(t, most, want)
	}
	for _, most := range oddNumbers {
		if most >= 1 && most <= 150 {
			continue
		}
		if got, ok := impl.WholeCrossings(most); len(got) != 0 || ok {
			t.Error("WholeCrossings", most, got, ok)
		}
		if l, n, ok := impl.LowestWhole(most); l != (impl.Ladders{}) || n != 0 || ok {
			t.Error("LowestWhole", most, l, n, ok)
		}
	}
}

func checkLowest(t *testing.T, most int, all []impl.Ladders) {
	t.Helper()
	var best impl.Ladders
	lowest := 0
	for _, l := range all {
		if cross := l.Left * l.Right / (l.Left + l.Right); lowest == 0 || cross < lowest {
			best, lowest = l, cross
		}
	}
	if l, n, ok := impl.LowestWhole(most); l != best || n != lowest || ok != (len(all) > 0) {
		t.Fatal(most, "LowestWhole", l, n, ok, "instead of", best, lowest)
	}
}

// The length 5 is the first one with a whole crossing, and the ladders 56:105/42 are there from 119 on.
func TestWholeCrossingsAtTheirLimits(t *testing.T) {
	if got, ok := impl.WholeCrossings(4); len(got) != 0 || !ok {
		t.Error("none are a result, too", got, ok)
	}
	if l, n, ok := impl.LowestWhole(4); l != (impl.Ladders{}) || n != 0 || ok {
		t.Error("there is no lowest one of none", l, n, ok)
	}
	if l, n, ok := impl.LowestWhole(5); l != (impl.Ladders{Wide: 3, Left: 4, Right: 4}) || n != 2 || !ok {
		t.Error(l, n, ok)
	}
	for most, want := range map[int]bool{118: false, 119: true, 150: true} {
		got, ok := impl.WholeCrossings(most)
		if !ok {
			t.Fatal(most)
		}
		found := false
		for _, l := range got {
			found = found || l == impl.Ladders{Wide: 56, Left: 105, Right: 42}
		}
		if found != want {
			t.Error(most, got)
		}
	}
}

func TestChangedLadders(t *testing.T) {
	for _, l := range sampleLadders() {
		for _, by := range oddNumbers {
			var moved, times impl.Ladders
			if by >= -1000 && by <= 1000 && l.Wide+by >= 1 && l.Wide+by <= 1000 {
				moved = impl.Ladders{Wide: l.Wide + by, Left: l.Left, Right: l.Right}
			}
			if got, ok := impl.MoveWall(l, by); got != moved || ok != (moved != impl.Ladders{}) {
				t.Fatal(l, "MoveWall", by, got, ok)
			}
			if by >= 1 && by <= 1000 && max(l.Wide, l.Left, l.Right)*by <= 1000 {
				times = impl.Ladders{Wide: l.Wide * by, Left: l.Left * by, Right: l.Right * by}
			}
			if got, ok := impl.TimesLadders(l, by); got != times || ok != (times != impl.Ladders{}) {
				t.Fatal(l, "TimesLadders", by, got, ok)
			}
		}
		mirrored, ok := impl.MirrorLadders(l)
		if !ok || mirrored != (impl.Ladders{Wide: l.Wide, Left: l.Right, Right: l.Left}) {
			t.Fatal(l, "MirrorLadders", mirrored, ok)
		}
		if back, ok := impl.MirrorLadders(mirrored); back != l || !ok {
			t.Fatal(l, "MirrorLadders twice", back, ok)
		}
	}
}

// The limits of changes may be met exactly, and not exceeded by one.
func TestChangedLaddersAtTheirLimits(t *testing.T) {
	l := impl.Ladders{Wide: 5, Left: 3, Right: 2}
	for by, want := range map[int]int{0: 5, 995: 1000, 996: 0, -4: 1, -5: 0, -6: 0, 1000: 0, -1000: 0} {
		if got, ok := impl.MoveWall(l, by); got.Wide != want || ok != (want > 0) {
			t.Error("MoveWall", by, got, ok)
		}
	}
	for by, want := range map[int]int{1: 5, 200: 1000, 201: 0, 0: 0, -1: 0, 1001: 0} {
		if got, ok := impl.TimesLadders(l, by); got.Wide != want || ok != (want > 0) {
			t.Error("TimesLadders", by, got, ok)
		}
	}
	for _, l := range []impl.Ladders{{Wide: 1, Left: 500, Right: 1}, {Wide: 1, Left: 1, Right: 500}, {Wide: 500, Left: 1, Right: 1}} {
		if got, ok := impl.TimesLadders(l, 2); max(got.Wide, got.Left, got.Right) != 1000 || !ok {
			t.Error(l, got, ok)
		}
		if got, ok := impl.TimesLadders(l, 3); got != (impl.Ladders{}) || ok {
			t.Error(l, got, ok)
		}
	}
	if got, ok := impl.TimesLadders(impl.Ladders{Wide: 1, Left: 1, Right: 1}, 1000); got != (impl.Ladders{Wide: 1000, Left: 1000, Right: 1000}) || !ok {
		t.Error(got, ok)
	}
}

func TestLaddersTexts(t *testing.T) {
	for _, l := range sampleLadders() {
		want := strconv.Itoa(l.Wide) + ":" + strconv.Itoa(l.Left) + "/" + strconv.Itoa(l.Right)
		text, ok := impl.LaddersText(l)
		if !ok || text != want {
			t.Fatal(l, text, ok)
		}
		if got, ok := impl.ParseLadders(text); got != l || !ok {
			t.Fatal(text, got, ok)
		}
	}
	almost := []string{
		"", ":", "/", ":/", "56", "56:", "56:105", "56:105/", "56:/42", ":105/42", "105/42", "56/105:42", "56:105:42", "56/105/42",
		"56:105/42/", "56:105/42/1", "56:105/42:1", "56::105/42", "56:105//42", ":56:105/42", "/56:105/42",
		" 56:105/42", "56:105/42 ", "56 :105/42", "56: 105/42", "56:105 /42", "56:105/ 42", "56:105/42\n", "56:105/42\x00", "\x0056:105/42",
		"056:105/42", "56:0105/42", "56:105/042", "00:00/00", "+56:105/42", "56:+105/42", "56:105/+42", "-56:105/42", "56:-105/42", "56:105/-42",
		"0:105/42", "56:0/42", "56:105/0", "-0:1/1", "1001:105/42", "56:1001/42", "56:105/1001", "5_6:105/42", "0x38:105/42", "5e1:105/42",
		"56.0:105/42", "a:105/42", "56:b/42", "56:105/c", "٥٦:105/42", "56：105/42", "56:105\xff/42", "56,105,42", "56|105/42", "(56:105/42)",
		"9223372036854775807:1/1", "9223372036854775808:1/1", "18446744073709551617:1/1", "1:18446744073709551617/1", "1:1/18446744073709551617",
		"4294967297:1/1", "-9223372036854775808:1/1", strings.Repeat("9", 5000) + ":1/1", strings.Repeat("0", 5000) + "1:1/1", strings.Repeat("1:1/1", 1000),
	}
	for _, s := range almost {
		if got, ok := impl.ParseLadders(s); got != (impl.Ladders{}) || ok {
			t.Errorf("%.40q: %v %v", s, got, ok)
		}
	}
	for s, want := range map[string]impl.Ladders{"1:1/1": {Wide: 1, Left: 1, Right: 1}, "1000:1000/1000": {Wide: 1000, Left: 1000, Right: 1000}} {
		if got, ok := impl.ParseLadders(s); got != want || !ok {
			t.Error(s, got, ok)
		}
	}
}

// Each text made from a valid one by another byte, a byte less or a byte more is parsed just if it is the text of what is parsed.
func TestLaddersTextsNearOthers(t *testing.T) {
	check := func(s string) {
		l, ok := impl.ParseLadders(s)
		if !ok && l != (impl.Ladders{}) {
			t.Fatalf("%q fails with %v", s, l)
		}
		if text, _ := impl.LaddersText(l); ok && text != s {
			t.Fatalf("%q is parsed as %q", s, text)
		}
	}
	const base = "10:100/1000"
	for i := 0; i <= len(base); i++ {
		for b := range 256 {
			sign := string([]byte{byte(b)})
			check(base[:i] + sign + base[i:])
			if i < len(base) {
				check(base[:i] + sign + base[i+1:])
			}
		}
		if i < len(base) {
			check(base[:i] + base[i+1:])
		}
	}
}

// Promise 11: calls with ladders that are none fail, and every other result is zero.
func TestInvalidLaddersFail(t *testing.T) {
	for _, l := range invalidLadders() {
		for what, call := range map[string]func() (int, int, bool){
			"CrossHeight": func() (int, int, bool) { return impl.CrossHeight(l) },
			"CrossPlace":  func() (int, int, bool) { return impl.CrossPlace(l) },
			"SquaresOf":   func() (int, int, bool) { return impl.SquaresOf(l) },
			"LengthsOf":   func() (int, int, bool) { return impl.LengthsOf(l) },
			"HeightAt":    func() (int, int, bool) { return impl.HeightAt(l, true, 0) },
			"HighestAt":   func() (int, int, bool) { return impl.HighestAt(l, 0) },
			"AreaBelow":   func() (int, int, bool) { return impl.AreaBelow(l) },
			"AreaBetween": func() (int, int, bool) { return impl.AreaBetween(l) },
		} {
			if a, b, ok := call(); a != 0 || b != 0 || ok {
				t.Error(what, l, a, b, ok)
			}
		}
		for what, call := range map[string]func() (impl.Ladders, bool){
			"MoveWall":      func() (impl.Ladders, bool) { return impl.MoveWall(l, 0) },
			"MoveWall by 1": func() (impl.Ladders, bool) { return impl.MoveWall(l, 1) }, // 0 wide becomes 1 wide
			"MoveWall by -": func() (impl.Ladders, bool) { return impl.MoveWall(l, -1) },
			"TimesLadders":  func() (impl.Ladders, bool) { return impl.TimesLadders(l, 1) },
			"MirrorLadders": func() (impl.Ladders, bool) { return impl.MirrorLadders(l) },
		} {
			if got, ok := call(); got != (impl.Ladders{}) || ok {
				t.Error(what, l, got, ok)
			}
		}
		if whole, ok := impl.IsWholeCrossing(l); whole || ok {
			t.Error("IsWholeCrossing", l, whole, ok)
		}
		if n, ok := impl.LongestStick(l); n != 0 || ok {
			t.Error("LongestStick", l, n, ok)
		}
		if s, ok := impl.LaddersText(l); s != "" || ok {
			t.Error("LaddersText", l, s, ok)
		}
	}
}

// Promise 11: no number makes a call panic, in whatever place it is.
func TestLadderCallsNeverPanic(t *testing.T) {
	for _, a := range oddNumbers {
		for _, b := range oddNumbers {
			for _, c := range oddNumbers {
				l := impl.Ladders{Wide: a, Left: b, Right: c}
				checkZeros(t, "CrossHeight", l)(impl.CrossHeight(l))
				checkZeros(t, "CrossPlace", l)(impl.CrossPlace(l))
				checkZeros(t, "SquaresOf", l)(impl.SquaresOf(l))
				checkZeros(t, "LengthsOf", l)(impl.LengthsOf(l))
				checkZeros(t, "AreaBelow", l)(impl.AreaBelow(l))
				checkZeros(t, "AreaBetween", l)(impl.AreaBetween(l))
				checkZeros(t, "OtherHeight", l)(impl.OtherHeight(a, b, c))
				impl.IsWholeCrossing(l)
				impl.LongestStick(l)
				impl.MirrorLadders(l)
				impl.LaddersText(l)
				for _, n := range oddNumbers {
					checkZeros(t, "HeightAt", l)(impl.HeightAt(l, n%2 == 0, n))
					checkZeros(t, "HighestAt", l)(impl.HighestAt(l, n))
					impl.MoveWall(l, n)
					impl.TimesLadders(l, n)
				}
			}
		}
	}
}

// checkZeros checks a call with two numbers: they are a positive second one, or zero if it fails.
func checkZeros(t *testing.T, what string, l impl.Ladders) func(int, int, bool) {
	return func(a int, b int, ok bool) {
		t.Helper()
		if ok && (a < 0 || b < 1) || !ok && (a != 0 || b != 0) {
			t.Fatal(what, l, a, b, ok)
		}
	}
}

// Results are new memory: changing one changes neither another call's result nor another slice of the same one.
func TestLadderResultsAreNew(t *testing.T) {
	want, _ := impl.PairsFor(12)
	spoiled, _ := impl.PairsFor(12)
	for i := range spoiled {
		_ = append(spoiled[i], -1, -1, -1)
		if !reflect.DeepEqual(spoiled, want) {
			t.Fatal("the pairs share memory", spoiled)
		}
	}
	for i := range spoiled {
		spoiled[i][0], spoiled[i][1] = -1, -1
	}
	if again, _ := impl.PairsFor(12); !reflect.DeepEqual(again, want) {
		t.Error("pairs are kept between calls", again)
	}
	whole, _ := impl.WholeCrossings(150)
	other, _ := impl.WholeCrossings(150)
	for i := range other {
		other[i] = impl.Ladders{}
	}
	if again, _ := impl.WholeCrossings(150); !reflect.DeepEqual(again, whole) {
		t.Error("whole crossings are kept between calls")
	}
}
