package tests

import (
	"math"
	"math/big"
	"reflect"
	"strconv"
	"strings"
	"testing"

	"loop.example/g01351/impl"
)

// shadowNumbers are ints at and around every limit of chapter 2, and at the ends of what an int can be.
var shadowNumbers = []int{
	math.MinInt, math.MinInt + 1, -1 << 32, -500, -1, 0, 1, 2, 3, 12, 39, 40, 41, 199, 200, 201,
	499, 500, 501, 1 << 31, 1 << 32, 1<<32 + 1, 1 << 62, math.MaxInt - 1, math.MaxInt,
}

// callOfTwo is a call that tells a fraction.
type callOfTwo func() (int, int, bool)

// samplePoles calls check for lamps and poles of them, the greatest and the least ones among them.
func samplePoles(check func(lamp int, p impl.Pole)) {
	sizes := []int{1, 2, 3, 4, 5, 6, 7, 12, 40, 99, 100, 127, 198, 199, 200}
	places := []int{1, 2, 3, 4, 7, 9, 12, 60, 127, 250, 499, 500}
	for _, lamp := range sizes[1:] {
		for _, high := range sizes {
			for _, place := range places {
				if high < lamp {
					check(lamp, impl.Pole{Place: place, High: high})
				}
			}
		}
	}
}

// noPoles calls check for lamps and poles that are none of them: a number is out of its limits, or the pole is not lower.
func noPoles(check func(lamp int, p impl.Pole)) {
	for _, n := range shadowNumbers {
		if n < 2 || n > 200 {
			check(n, impl.Pole{Place: 4, High: 1})
			check(n, impl.Pole{Place: 4, High: n - 1})
		}
		if n < 1 || n > 500 {
			check(6, impl.Pole{Place: n, High: 2})
		}
		if n < 1 || n > 5 {
			check(6, impl.Pole{Place: 4, High: n})
		}
		if n < 1 || n > 199 {
			check(200, impl.Pole{Place: 4, High: n})
		}
	}
	check(2, impl.Pole{Place: 4, High: 2})
	check(0, impl.Pole{})
	check(6, impl.Pole{})
	check(math.MinInt, impl.Pole{Place: math.MinInt, High: math.MinInt})
	check(math.MaxInt, impl.Pole{Place: math.MaxInt, High: math.MaxInt})
}

// lineAt is how high the line from the lamp by the top of a pole is at a place: less than 0 below the ground.
func lineAt(lamp int, p impl.Pole, place *big.Rat) *big.Rat {
	return sub(rat(lamp, 1), mul(place, rat(lamp-p.High, p.Place)))
}

func told(t *testing.T, what any, call callOfTwo) *big.Rat {
	t.Helper()
	num, den, ok := call()
	if !ok {
		t.Fatal(what, "fails")
	}
	return toldRat(t, "a fraction", num, den, ok)
}

func endOf(t *testing.T, lamp int, p impl.Pole) *big.Rat {
	t.Helper()
	return told(t, p, func() (int, int, bool) { return impl.ShadowEnd(lamp, p) })
}

func failsWithZeros(t *testing.T, what any, call callOfTwo) {
	t.Helper()
	if a, b, ok := call(); a != 0 || b != 0 || ok {
		t.Fatal(what, "does not fail with zeros", a, b, ok)
	}
}

func TestShadowExample(t *testing.T) {
	p := impl.Pole{Place: 4, High: 2}
	for _, c := range []struct {
		what     string
		num, den int
		call     callOfTwo
	}{
		{"length", 2, 1, func() (int, int, bool) { return impl.ShadowLength(6, p) }},
		{"end", 6, 1, func() (int, int, bool) { return impl.ShadowEnd(6, p) }},
		{"wall", 1, 1, func() (int, int, bool) { return impl.ShadowOnWall(6, p, 5) }},
		{"hidden height", 1, 1, func() (int, int, bool) { return impl.HiddenHeight(6, p, 5) }},
		{"lamp", 6, 1, func() (int, int, bool) { return impl.LampOfShadow(p, 2) }},
		{"pole", 2, 1, func() (int, int, bool) { return impl.PoleOfShadow(6, 4, 2) }},
		{"place", 4, 1, func() (int, int, bool) { return impl.PlaceOfShadow(6, 2, 2) }},
	} {
		if num, den, ok := c.call(); num != c.num || den != c.den || !ok {
			t.Error(c.what, num, den, ok)
		}
	}
	if hidden, ok := impl.IsHidden(6, p, impl.Pole{Place: 5, High: 1}); !hidden || !ok {
		t.Error("5|1 is hidden", hidden, ok)
	}
	if hidden, ok := impl.IsHidden(6, p, impl.Pole{Place: 5, High: 2}); hidden || !ok {
		t.Error("5|2 is not hidden", hidden, ok)
	}
}

func TestShadowExampleOfThreePoles(t *testing.T) {
	poles, ok := impl.ParsePoles("2|3,4|2,9|1")
	if !ok || !reflect.DeepEqual(poles, []impl.Pole{{Place: 2, High: 3}, {Place: 4, High: 2}, {Place: 9, High: 1}}) {
		t.Fatal("poles", poles, ok)
	}
	if hidden, ok := impl.HiddenPoles(6, poles); len(hidden) != 0 || !ok {
		t.Error("none is hidden", hidden, ok)
	}
	if k, ok := impl.LongestShadow(6, poles); k != 0 || !ok {
		t.Error("longest", k, ok)
	}
	if num, den, ok := impl.FarthestDark(6, poles); num != 54 || den != 5 || !ok {
		t.Error("farthest", num, den, ok)
	}
	if dark, ok := impl.DarkPlaces(6, poles, 12); !ok || !reflect.DeepEqual(dark, []int{3, 4, 5, 6, 10}) {
		t.Error("dark", dark, ok)
	}
}

// Promise 2: the line from the lamp by the top is at the ground where the shadow ends, and its length is from the foot to there.
func TestShadowsEndOnTheGround(t *testing.T) {
	samplePoles(func(lamp int, p impl.Pole) {
		end := endOf(t, lamp, p)
		sameRat(t, p, lineAt(lamp, p, end), rat(0, 1))
		long := told(t, p, func() (int, int, bool) { return impl.ShadowLength(lamp, p) })
		sameRat(t, p, add(long, rat(p.Place, 1)), end)
	})
	noPoles(func(lamp int, p impl.Pole) {
		failsWithZeros(t, p, func() (int, int, bool) { return impl.ShadowEnd(lamp, p) })
		failsWithZeros(t, p, func() (int, int, bool) { return impl.ShadowLength(lamp, p) })
	})
	for _, c := range []struct {
		lamp               int
		p                  impl.Pole
		longNum, longDen   int
		whereNum, whereDen int
	}{
		{2, impl.Pole{Place: 1, High: 1}, 1, 1, 2, 1},
		{200, impl.Pole{Place: 500, High: 199}, 99500, 1, 100000, 1},
		{200, impl.Pole{Place: 500, High: 1}, 500, 199, 100000, 199},
		{6, impl.Pole{Place: 9, High: 1}, 9, 5, 54, 5},
		{10, impl.Pole{Place: 6, High: 4}, 4, 1, 10, 1},
		{10, impl.Pole{Place: 3, High: 6}, 9, 2, 15, 2},
	} {
		if num, den, ok := impl.ShadowLength(c.lamp, c.p); num != c.longNum || den != c.longDen || !ok {
			t.Error(c, "ShadowLength", num, den, ok)
		}
		if num, den, ok := impl.ShadowEnd(c.lamp, c.p); num != c.whereNum || den != c.whereDen || !ok {
			t.Error(c, "ShadowEnd", num, den, ok)
		}
	}
}

// The shadow on a wall is up to the line from the lamp, and so is what is hidden there; both are 0 behind the end.
func TestShadowsOnWalls(t *testing.T) {
	samplePoles(func(lamp int, p impl.Pole) {
		for _, wall := range []int{p.Place + 1, p.Place + 2, p.Place * 3 / 2, p.Place * 2, p.Place * 5, 499, 500} {
			if wall <= p.Place || wall > 500 {
				continue
			}
			want := lineAt(lamp, p, rat(wall, 1))
			if want.Sign() < 0 {
				want = rat(0, 1)
			}
			sameRat(t, p, told(t, p, func() (int, int, bool) { return impl.ShadowOnWall(lamp, p, wall) }), want)
			sameRat(t, p, told(t, p, func() (int, int, bool) { return impl.HiddenHeight(lamp, p, wall) }), want)
		}
		for _, wall := range append([]int{p.Place - 1, p.Place}, shadowNumbers...) {
			if wall <= p.Place || wall > 500 {
				failsWithZeros(t, wall, func() (int, int, bool) { return impl.ShadowOnWall(lamp, p, wall) })
				failsWithZeros(t, wall, func() (int, int, bool) { return impl.HiddenHeight(lamp, p, wall) })
			}
		}
	})
	noPoles(func(lamp int, p impl.Pole) {
		for _, wall := range []int{5, 500, math.MaxInt, math.MinInt} {
			failsWithZeros(t, p, func() (int, int, bool) { return impl.ShadowOnWall(lamp, p, wall) })
			failsWithZeros(t, p, func() (int, int, bool) { return impl.HiddenHeight(lamp, p, wall) })
		}
	})
	p := impl.Pole{Place: 4, High: 2}
	for wall, want := range map[int][2]int{5: {1, 1}, 6: {0, 1}, 7: {0, 1}, 500: {0, 1}} {
		if num, den, ok := impl.ShadowOnWall(6, p, wall); num != want[0] || den != want[1] || !ok {
			t.Error("ShadowOnWall", wall, num, den, ok)
		}
		if num, den, ok := impl.HiddenHeight(6, p, wall); num != want[0] || den != want[1] || !ok {
			t.Error("HiddenHeight", wall, num, den, ok)
		}
	}
}

func TestSunlight(t *testing.T) {
	sizes := []int{1, 2, 3, 6, 10, 35, 199, 200, 201, 360, 499, 500}
	for _, high := range sizes {
		for _, run := range sizes {
			if high > 200 {
				continue
			}
			slope := told(t, high, func() (int, int, bool) { return impl.SunSlope(high, run) })
			sameRat(t, high, slope, rat(high, run))
			for _, rise := range sizes {
				long := told(t, high, func() (int, int, bool) { return impl.SunShadow(high, rise, run) })
				// The light falls by high on the length of the shadow.
				sameRat(t, high, mul(long, rat(rise, run)), rat(high, 1))
			}
		}
	}
	for _, n := range shadowNumbers {
		if n < 1 || n > 200 {
			failsWithZeros(t, n, func() (int, int, bool) { return impl.SunShadow(n, 1, 2) })
			failsWithZeros(t, n, func() (int, int, bool) { return impl.SunSlope(n, 2) })
		}
		if n < 1 || n > 500 {
			failsWithZeros(t, n, func() (int, int, bool) { return impl.SunShadow(3, n, 2) })
			failsWithZeros(t, n, func() (int, int, bool) { return impl.SunShadow(3, 1, n) })
			failsWithZeros(t, n, func() (int, int, bool) { return impl.SunSlope(3, n) })
		}
	}
	if num, den, ok := impl.SunShadow(6, 4, 3); num != 9 || den != 2 || !ok {
		t.Error("SunShadow", num, den, ok)
	}
	if num, den, ok := impl.SunSlope(200, 500); num != 2 || den != 5 || !ok {
		t.Error("SunSlope", num, den, ok)
	}
}

// Lamp, pole and place are found again from shadows that are whole.
func TestShadowsToldBack(t *testing.T) {
	samplePoles(func(lamp int, p impl.Pole) {
		num, den, _ := impl.ShadowLength(lamp, p)
		if den != 1 || num > 500 {
			return
		}
		sameRat(t, p, told(t, p, func() (int, int, bool) { return impl.LampOfShadow(p, num) }), rat(lamp, 1))
		sameRat(t, p, told(t, p, func() (int, int, bool) { return impl.PoleOfShadow(lamp, p.Place, num) }), rat(p.High, 1))
		sameRat(t, p, told(t, p, func() (int, int, bool) { return impl.PlaceOfShadow(lamp, p.High, num) }), rat(p.Place, 1))
	})
}

// Whatever the shadow, the slope from the lamp to the top is that from the top to the end.
func TestWhatShadowsTell(t *testing.T) {
	for _, shadow := range []int{1, 2, 3, 7, 100, 499, 500} {
		samplePoles(func(lamp int, p impl.Pole) {
			hangs := told(t, p, func() (int, int, bool) { return impl.LampOfShadow(p, shadow) })
			sameRat(t, p, mul(sub(hangs, rat(p.High, 1)), rat(shadow, p.Place)), rat(p.High, 1))
			high := told(t, p, func() (int, int, bool) { return impl.PoleOfShadow(lamp, p.Place, shadow) })
			sameRat(t, p, mul(sub(rat(lamp, 1), high), rat(shadow, p.Place)), high)
			place := told(t, p, func() (int, int, bool) { return impl.PlaceOfShadow(lamp, p.High, shadow) })
			sameRat(t, p, mul(place, rat(p.High, shadow)), rat(lamp-p.High, 1))
		})
	}
	// A pole for LampOfShadow has no lamp that it has to be lower than, and the result no limit.
	if num, den, ok := impl.LampOfShadow(impl.Pole{Place: 500, High: 200}, 1); num != 100200 || den != 1 || !ok {
		t.Error("LampOfShadow", num, den, ok)
	}
	if num, den, ok := impl.PoleOfShadow(2, 500, 1); num != 2 || den != 501 || !ok {
		t.Error("PoleOfShadow", num, den, ok)
	}
	if num, den, ok := impl.PlaceOfShadow(200, 1, 500); num != 99500 || den != 1 || !ok {
		t.Error("PlaceOfShadow", num, den, ok)
	}
	if num, den, ok := impl.PlaceOfShadow(200, 199, 1); num != 1 || den != 199 || !ok {
		t.Error("PlaceOfShadow", num, den, ok)
	}
}

func TestWhatNoShadowsTell(t *testing.T) {
	for _, n := range shadowNumbers {
		if n < 1 || n > 500 {
			failsWithZeros(t, n, func() (int, int, bool) { return impl.LampOfShadow(impl.Pole{Place: 4, High: 2}, n) })
			failsWithZeros(t, n, func() (int, int, bool) { return impl.LampOfShadow(impl.Pole{Place: n, High: 2}, 2) })
			failsWithZeros(t, n, func() (int, int, bool) { return impl.PoleOfShadow(6, n, 2) })
			failsWithZeros(t, n, func() (int, int, bool) { return impl.PoleOfShadow(6, 4, n) })
			failsWithZeros(t, n, func() (int, int, bool) { return impl.PlaceOfShadow(6, 2, n) })
		}
		if n < 1 || n > 200 {
			failsWithZeros(t, n, func() (int, int, bool) { return impl.LampOfShadow(impl.Pole{Place: 4, High: n}, 2) })
		}
		if n < 1 || n >= 6 {
			failsWithZeros(t, n, func() (int, int, bool) { return impl.PlaceOfShadow(6, n, 2) })
		}
		if n >= 2 && n <= 200 {
			failsWithZeros(t, n, func() (int, int, bool) { return impl.PlaceOfShadow(n, n, 2) }) // the pole is as high as the lamp
			failsWithZeros(t, n, func() (int, int, bool) { return impl.PlaceOfShadow(n, n+1, 2) })
		}
		if n < 2 || n > 200 {
			failsWithZeros(t, n, func() (int, int, bool) { return impl.PoleOfShadow(n, 4, 2) })
			failsWithZeros(t, n, func() (int, int, bool) { return impl.PlaceOfShadow(n, 1, 2) })
		}
	}
}

// Whether a pole is hidden is seen by the line over its place; none hides itself, or what is before it.
func TestHiddenByOne(t *testing.T) {
	for lamp := 2; lamp <= 7; lamp++ {
		for i := range 9 * lamp {
			for j := range 9 * lamp {
				p := impl.Pole{Place: i/lamp + 1, High: i % lamp}
				q := impl.Pole{Place: j/lamp + 1, High: j % lamp}
				if p.High == 0 || q.High == 0 {
					continue
				}
				want := q.Place > p.Place && rat(q.High, 1).Cmp(lineAt(lamp, p, rat(q.Place, 1))) <= 0
				if got, ok := impl.IsHidden(lamp, p, q); got != want || !ok {
					t.Fatal(lamp, p, q, got, ok)
				}
			}
		}
	}
	noPoles(func(lamp int, p impl.Pole) {
		one := impl.Pole{Place: 3, High: 1}
		if hidden, ok := impl.IsHidden(lamp, p, one); hidden || ok {
			t.Error("hidden by no pole", lamp, p, hidden, ok)
		}
		if hidden, ok := impl.IsHidden(lamp, one, p); hidden || ok {
			t.Error("no pole is hidden", lamp, p, hidden, ok)
		}
	})
}

func TestHiddenByOneAtTheLimits(t *testing.T) {
	for _, c := range []struct {
		lamp int
		p, q impl.Pole
		want bool
	}{
		{200, impl.Pole{Place: 499, High: 199}, impl.Pole{Place: 500, High: 198}, true},
		{200, impl.Pole{Place: 499, High: 199}, impl.Pole{Place: 500, High: 199}, false},
		{200, impl.Pole{Place: 1, High: 199}, impl.Pole{Place: 199, High: 1}, true},
		{200, impl.Pole{Place: 1, High: 199}, impl.Pole{Place: 200, High: 1}, false},
		{6, impl.Pole{Place: 4, High: 5}, impl.Pole{Place: 4, High: 1}, false},
		{6, impl.Pole{Place: 4, High: 5}, impl.Pole{Place: 3, High: 1}, false},
	} {
		if got, ok := impl.IsHidden(c.lamp, c.p, c.q); got != c.want || !ok {
			t.Error(c, got, ok)
		}
	}
}

// rowsOfPoles are poles of lamps: made ones of all numbers, among them close and low ones, which hide and darken each other.
func rowsOfPoles() (lamps []int, rows [][]impl.Pole) {
	z := 7
	next := func(below int) int {
		z = (z*269 + 1361) % 10007
		return z % below
	}
	for i := range 1500 {
		lamp := 2 + next([]int{3, 9, 40, 199}[i%4])
		gap := []int{1, 4, 20, 80}[next(4)]
		var row []impl.Pole
		place := 0
		for range 1 + next(6) {
			place += 1 + next(gap)
			row = append(row, impl.Pole{Place: place, High: 1 + next(lamp-1)})
		}
		lamps, rows = append(lamps, lamp), append(rows, row)
	}
	lamps = append(lamps, 200, 200, 2)
	rows = append(rows,
		[]impl.Pole{{Place: 495, High: 199}, {Place: 496, High: 198}, {Place: 497, High: 1}, {Place: 498, High: 1}, {Place: 499, High: 199}, {Place: 500, High: 199}},
		[]impl.Pole{{Place: 1, High: 199}, {Place: 500, High: 1}},
		[]impl.Pole{{Place: 1, High: 1}})
	return lamps, rows
}

// Promise 2: a place is dark if, and only if, it is in some shadow.
func TestDarkPlacesAreInShadows(t *testing.T) {
	lamps, rows := rowsOfPoles()
	for i, poles := range rows {
		var ends []*big.Rat
		for _, p := range poles {
			ends = append(ends, endOf(t, lamps[i], p))
		}
		var all []int
		for place := 0; place <= 500; place++ {
			dark := false
			for k, p := range poles {
				dark = dark || place > p.Place && rat(place, 1).Cmp(ends[k]) <= 0
			}
			if dark {
				all = append(all, place)
			}
		}
		for _, most := range []int{0, 1, 5, 17, poles[0].Place, poles[len(poles)-1].Place + 1, 499, 500} {
			most = min(most, 500)
			want := all
			for len(want) > 0 && want[len(want)-1] > most {
				want = want[:len(want)-1]
			}
			got, ok := impl.DarkPlaces(lamps[i], poles, most)
			if !ok || len(got) != len(want) || len(want) > 0 && !reflect.DeepEqual(got, want) {
				t.Fatal(lamps[i], poles, most, got, want, ok)
			}
		}
		checkFarthest(t, lamps[i], poles, ends)
	}
}

func checkFarthest(t *testing.T, lamp int, poles []impl.Pole, ends []*big.Rat) {
	t.Helper()
	farthest, longest := ends[0], 0
	length := func(k int) *big.Rat { return sub(ends[k], rat(poles[k].Place, 1)) }
	for k := range poles {
		if ends[k].Cmp(farthest) > 0 {
			farthest = ends[k]
		}
		if length(k).Cmp(length(longest)) > 0 {
			longest = k
		}
	}
	sameRat(t, poles, told(t, poles, func() (int, int, bool) { return impl.FarthestDark(lamp, poles) }), farthest)
	if k, ok := impl.LongestShadow(lamp, poles); k != longest || !ok {
		t.Fatal(lamp, poles, "LongestShadow", k, ok, "instead of", longest)
	}
}

func TestDarkPlacesAtTheirLimits(t *testing.T) {
	for _, c := range []struct {
		lamp  int
		poles []impl.Pole
		most  int
		want  []int
	}{
		{6, []impl.Pole{{Place: 4, High: 2}}, 500, []int{5, 6}}, // the foot is not dark, the end is
		{6, []impl.Pole{{Place: 4, High: 2}}, 6, []int{5, 6}},
		{6, []impl.Pole{{Place: 4, High: 2}}, 5, []int{5}},
		{6, []impl.Pole{{Place: 4, High: 2}}, 4, nil},
		{6, []impl.Pole{{Place: 4, High: 2}}, 0, nil},
		{200, []impl.Pole{{Place: 1, High: 1}}, 500, nil}, // the shadow is too short for a whole place
		{6, []impl.Pole{{Place: 4, High: 2}, {Place: 5, High: 1}}, 500, []int{5, 6}},
		{6, []impl.Pole{{Place: 4, High: 1}, {Place: 5, High: 1}}, 500, []int{6}},
		{2, []impl.Pole{{Place: 1, High: 1}, {Place: 5, High: 1}}, 8, []int{2, 6, 7, 8}},
	} {
		got, ok := impl.DarkPlaces(c.lamp, c.poles, c.most)
		if !ok || len(got) != len(c.want) || len(got) > 0 && !reflect.DeepEqual(got, c.want) {
			t.Error(c, got, ok)
		}
	}
	all := []impl.Pole{{Place: 1, High: 199}, {Place: 3, High: 199}, {Place: 5, High: 199}}
	if got, ok := impl.DarkPlaces(200, all, 500); !ok || len(got) != 499 || got[0] != 2 || got[498] != 500 {
		t.Error("all but 0 and 1", got, ok)
	}
	poles := []impl.Pole{{Place: 4, High: 2}}
	for _, most := range shadowNumbers {
		if most >= 0 && most <= 500 {
			continue
		}
		if got, ok := impl.DarkPlaces(6, poles, most); len(got) != 0 || ok {
			t.Error("DarkPlaces up to", most, got, ok)
		}
	}
}

func TestHiddenPoles(t *testing.T) {
	lamps, rows := rowsOfPoles()
	some, none := 0, 0
	for i, poles := range rows {
		var want []int
		for k, q := range poles {
			hidden := false
			for _, p := range poles {
				hidden = hidden || q.Place > p.Place && rat(q.High, 1).Cmp(lineAt(lamps[i], p, rat(q.Place, 1))) <= 0
			}
			if hidden {
				want = append(want, k)
			}
		}
		got, ok := impl.HiddenPoles(lamps[i], poles)
		if !ok || len(got) != len(want) || len(want) > 0 && !reflect.DeepEqual(got, want) {
			t.Fatal(lamps[i], poles, got, want, ok)
		}
		if len(want) == 0 {
			none++
		} else {
			some++
		}
	}
	if some == 0 || none == 0 {
		t.Error("these rows tell too little", some, none)
	}
}

func TestHiddenPolesByText(t *testing.T) {
	for text, want := range map[string][]int{
		"4|2":                       nil,
		"4|2,5|1":                   {1},    // the top is just on the line
		"4|2,5|2":                   nil,    // the top is above the line
		"4|2,6|1":                   nil,    // the shadow ends at its foot
		"1|1,2|5,3|5,4|4,5|1":       {3, 4}, // by the second one: its line is 9 / 2, 4 and 7 / 2 high there
		"3|1,4|1,5|1":               nil,
		"1|5,2|4,3|3,4|2,5|1,500|1": {1, 2, 3, 4},
	} {
		poles, ok := impl.ParsePoles(text)
		if !ok {
			t.Fatal(text)
		}
		got, ok := impl.HiddenPoles(6, poles)
		if !ok || len(got) != len(want) || len(want) > 0 && !reflect.DeepEqual(got, want) {
			t.Error(text, got, ok)
		}
	}
}

func TestFirstOfSeveralLongestShadows(t *testing.T) {
	for _, c := range []struct {
		text    string
		longest int
		num     int
		den     int
	}{
		{"2|3,4|2", 0, 6, 1},            // both are 2 long
		{"1|4,2|3,4|2", 0, 6, 1},        // all are 2 long
		{"1|1,2|3,4|2", 1, 6, 1},        // the first one of the last two
		{"1|5,5|1", 0, 6, 1},            // both end at 6
		{"1|1,2|1,3|1", 2, 18, 5},       // longer with each place
		{"3|5,4|1,20|1", 0, 24, 1},      // neither the first one nor the longest one is the farthest
		{"1|5,2|1,500|5", 2, 3000, 1},   // farther than any place
		{"9|5,10|1,11|1", 0, 54, 1},     // the first one is the farthest
		{"1|5,9|4,10|1,11|2", 1, 27, 1}, // one between is both
	} {
		poles, ok := impl.ParsePoles(c.text)
		if !ok {
			t.Fatal(c.text)
		}
		if k, ok := impl.LongestShadow(6, poles); k != c.longest || !ok {
			t.Error(c.text, "LongestShadow", k, ok)
		}
		if num, den, ok := impl.FarthestDark(6, poles); num != c.num || den != c.den || !ok {
			t.Error(c.text, "FarthestDark", num, den, ok)
		}
	}
}

// rowsThatAreNoPoles are no poles of any lamp: too few or too many, with a number out of its limits, or in no order.
func rowsThatAreNoPoles() [][]impl.Pole {
	rows := [][]impl.Pole{nil, {}, {{}}, {{Place: 4, High: 2}, {Place: 4, High: 2}}, {{Place: 4, High: 1}, {Place: 4, High: 2}},
		{{Place: 4, High: 2}, {Place: 3, High: 2}}, {{Place: 1, High: 1}, {Place: 3, High: 2}, {Place: 2, High: 3}},
		{{Place: 1, High: 1}, {Place: 2, High: 1}, {Place: 3, High: 1}, {Place: 4, High: 1}, {Place: 5, High: 1}, {Place: 6, High: 1}, {Place: 7, High: 1}},
		make([]impl.Pole, 7), make([]impl.Pole, 5000)}
	for _, n := range shadowNumbers {
		if n < 1 || n > 500 {
			rows = append(rows, []impl.Pole{{Place: n, High: 1}}, []impl.Pole{{Place: 4, High: 2}, {Place: n, High: 1}},
				[]impl.Pole{{Place: n, High: 1}, {Place: 4, High: 2}})
		}
		if n < 1 || n > 200 {
			rows = append(rows, []impl.Pole{{Place: 4, High: n}}, []impl.Pole{{Place: 4, High: 2}, {Place: 5, High: n}},
				[]impl.Pole{{Place: 3, High: n}, {Place: 4, High: 2}})
		}
	}
	return rows
}

// checkNoRow checks that all calls with a lamp and poles fail, and that every other result is zero.
func checkNoRow(t *testing.T, lamp int, poles []impl.Pole) {
	t.Helper()
	if impl.ArePoles(lamp, poles) {
		t.Error("ArePoles", lamp, poles)
	}
	if dark, ok := impl.DarkPlaces(lamp, poles, 12); len(dark) != 0 || ok {
		t.Error("DarkPlaces", lamp, poles, dark, ok)
	}
	if hidden, ok := impl.HiddenPoles(lamp, poles); len(hidden) != 0 || ok {
		t.Error("HiddenPoles", lamp, poles, hidden, ok)
	}
	if k, ok := impl.LongestShadow(lamp, poles); k != 0 || ok {
		t.Error("LongestShadow", lamp, poles, k, ok)
	}
	failsWithZeros(t, poles, func() (int, int, bool) { return impl.FarthestDark(lamp, poles) })
}

func TestArePoles(t *testing.T) {
	lamps, rows := rowsOfPoles()
	for i, poles := range rows {
		if !impl.ArePoles(lamps[i], poles) {
			t.Fatal(lamps[i], poles)
		}
		highest := 0
		for _, p := range poles {
			highest = max(highest, p.High)
		}
		if highest > 1 && !impl.ArePoles(highest+1, poles) {
			t.Fatal("the lamp is 1 higher", poles)
		}
		// A lamp as high as a pole, or too high, or none.
		for _, lamp := range append([]int{highest, highest - 1}, shadowNumbers...) {
			if lamp > highest && lamp >= 2 && lamp <= 200 {
				continue
			}
			checkNoRow(t, lamp, poles)
		}
	}
	for _, poles := range rowsThatAreNoPoles() {
		for _, lamp := range []int{2, 6, 199, 200, math.MaxInt, math.MinInt} {
			checkNoRow(t, lamp, poles)
		}
	}
	// Only one pole of several is too high.
	for _, text := range []string{"1|6,2|5", "1|5,2|6", "1|5,2|6,3|5"} {
		poles, ok := impl.ParsePoles(text)
		if !ok {
			t.Fatal(text)
		}
		checkNoRow(t, 6, poles)
	}
}

func TestWholeShadows(t *testing.T) {
	for lamp := 2; lamp <= 40; lamp++ {
		var want [][]int
		for place := 1; place <= 12; place++ {
			for high := 1; high < lamp; high++ {
				num, den, ok := impl.ShadowLength(lamp, impl.Pole{Place: place, High: high})
				if ok && den == 1 && num <= 12 {
					want = append(want, []int{place, high, num})
				}
			}
		}
		got, ok := impl.WholeShadows(lamp)
		if !ok || !reflect.DeepEqual(got, want) {
			t.Fatal(lamp, got, want, ok)
		}
	}
	got, _ := impl.WholeShadows(2)
	if len(got) != 12 {
		t.Error("WholeShadows of 2", got)
	}
	for k, row := range got {
		if !reflect.DeepEqual(row, []int{k + 1, 1, k + 1}) {
			t.Error("WholeShadows of 2", row)
		}
	}
	if got, _ := impl.WholeShadows(3); !reflect.DeepEqual(got[:4], [][]int{{1, 2, 2}, {2, 1, 1}, {2, 2, 4}, {3, 2, 6}}) {
		t.Error("WholeShadows of 3", got)
	}
	for _, lamp := range shadowNumbers {
		if lamp >= 2 && lamp <= 40 {
			continue
		}
		if got, ok := impl.WholeShadows(lamp); len(got) != 0 || ok {
			t.Error("WholeShadows", lamp, got, ok)
		}
	}
}

func TestPolesTexts(t *testing.T) {
	_, rows := rowsOfPoles()
	rows = append(rows, []impl.Pole{{Place: 500, High: 200}}, []impl.Pole{{Place: 1, High: 200}, {Place: 2, High: 1}, {Place: 500, High: 200}})
	for _, poles := range rows {
		want := ""
		for k, p := range poles {
			if k > 0 {
				want += ","
			}
			want += strconv.Itoa(p.Place) + "|" + strconv.Itoa(p.High)
		}
		if text, ok := impl.PolesText(poles); text != want || !ok {
			t.Fatal(poles, text, ok)
		}
		if back, ok := impl.ParsePoles(want); !ok || !reflect.DeepEqual(back, poles) {
			t.Fatal(want, back, ok)
		}
	}
	for _, poles := range rowsThatAreNoPoles() {
		if text, ok := impl.PolesText(poles); text != "" || ok {
			t.Error(poles, text, ok)
		}
	}
}

// Texts that are almost PolesTexts are none.
func TestNoPolesTexts(t *testing.T) {
	for _, s := range []string{
		"", "|", ",", "4", "4|", "|2", "4,2", "4|2,", ",4|2", "4|2,,5|1", "4|2|1", "4||2", "4|2,5", "4|2,|1", "4|2,5|",
		" 4|2", "4|2 ", "4 |2", "4| 2", "4|2, 5|1", "4|2\n", "4|2\x00", "+4|2", "4|+2", "-4|2", "4|-2", "04|2", "4|02", "00|2",
		"0|2", "4|0", "501|2", "4|201", "4|2,4|1", "4|2,3|1", "4:2", "4/2", "4|2;5|1", "4|2.5|1", "0x4|2", "4_0|2", "4e1|2", "4.0|2",
		"1|1,2|1,3|1,4|1,5|1,6|1,7|1", "1|1,2|1,3|1,4|1,5|1,6|1,", "1|1,2|1,3|1,4|1,5|1,6|1,7", "4|2,501|1", "4|2,5|201",
		"9223372036854775807|1", "9223372036854775808|1", "18446744073709551620|2", "4|18446744073709551618", "-9223372036854775808|1",
		"\u0664|2", "4\u00a62", "\u0664|\u0662", "4|2\xff", strings.Repeat("1|1,", 100000), strings.Repeat("9", 100000) + "|1",
	} {
		if poles, ok := impl.ParsePoles(s); len(poles) != 0 || ok {
			t.Errorf("%.40q: %v %v", s, poles, ok)
		}
	}
	for _, s := range []string{"1|1", "500|200", "1|200,500|1", "1|1,2|1,3|1,4|1,5|1,6|1", "495|200,496|200,497|200,498|200,499|200,500|200"} {
		if poles, ok := impl.ParsePoles(s); !ok || len(poles) != strings.Count(s, "|") {
			t.Errorf("%q: %v %v", s, poles, ok)
		}
	}
}

// A text that is parsed is just the text of what it is parsed to: each byte of it counts.
func TestPolesTextsWithOtherBytes(t *testing.T) {
	check := func(s string) {
		poles, ok := impl.ParsePoles(s)
		if !ok && len(poles) != 0 {
			t.Fatalf("%q fails with %v", s, poles)
		}
		if text, _ := impl.PolesText(poles); ok && text != s {
			t.Fatalf("%q is parsed as %q", s, text)
		}
	}
	const base = "9|20,100|200,500|1"
	for i := 0; i <= len(base); i++ {
		for b := range 256 {
			sign := string([]byte{byte(b)})
			check(base[:i] + sign + base[i:])
			if i < len(base) {
				check(base[:i] + sign + base[i+1:])
			}
		}
		if i < len(base) {
			check(base[:i] + base[i+1:])
		}
	}
}

// Promise 11: no number makes a call panic, in whatever place it is.
func TestShadowCallsNeverPanic(t *testing.T) {
	calm := func(a int, b int, ok bool) {
		t.Helper()
		if ok && (a < 0 || b < 1) || !ok && (a != 0 || b != 0) {
			t.Fatal(a, b, ok)
		}
	}
	for _, a := range shadowNumbers {
		impl.WholeShadows(a)
		for _, b := range shadowNumbers {
			calm(impl.SunSlope(a, b))
			for _, c := range shadowNumbers {
				p := impl.Pole{Place: b, High: c}
				calm(impl.ShadowLength(a, p))
				calm(impl.ShadowEnd(a, p))
				calm(impl.SunShadow(a, b, c))
				calm(impl.LampOfShadow(p, a))
				calm(impl.PoleOfShadow(a, b, c))
				calm(impl.PlaceOfShadow(a, b, c))
				impl.PolesText([]impl.Pole{p})
				row := []impl.Pole{p, {Place: 500, High: 1}}
				impl.ArePoles(a, row)
				impl.HiddenPoles(a, row)
				impl.LongestShadow(a, row)
				calm(impl.FarthestDark(a, row))
				for _, d := range shadowNumbers {
					calm(impl.ShadowOnWall(a, p, d))
					calm(impl.HiddenHeight(a, p, d))
					impl.IsHidden(a, p, impl.Pole{Place: d, High: b})
					if d == 500 || d > 1000 || d < 0 {
						impl.DarkPlaces(a, row, d)
					}
				}
			}
		}
	}
}

// Promise 11: poles are not modified, nor is what lies behind them in the same memory.
func TestPolesAreNotModified(t *testing.T) {
	lamps, rows := rowsOfPoles()
	for i, poles := range rows {
		room := make([]impl.Pole, 12)
		for k := range room {
			room[k] = impl.Pole{Place: -k, High: -7}
		}
		copy(room, poles)
		before := append([]impl.Pole{}, room...)
		row := room[:len(poles)]
		impl.ArePoles(lamps[i], row)
		impl.DarkPlaces(lamps[i], row, 500)
		impl.HiddenPoles(lamps[i], row)
		impl.LongestShadow(lamps[i], row)
		impl.FarthestDark(lamps[i], row)
		impl.PolesText(row)
		if !reflect.DeepEqual(room, before) {
			t.Fatal(poles, room)
		}
	}
	// What lies behind the poles is no pole: it decides nothing.
	room := []impl.Pole{{Place: 4, High: 2}, {Place: 5, High: 1}, {Place: 3, High: 900}}
	if hidden, ok := impl.HiddenPoles(6, room[:2]); !ok || !reflect.DeepEqual(hidden, []int{1}) {
		t.Error(hidden, ok)
	}
	if text, ok := impl.PolesText(room[:1]); text != "4|2" || !ok {
		t.Error(text, ok)
	}
}

// Results are new memory: changing one changes neither another call's result nor another slice of the same one.
func TestShadowResultsAreNew(t *testing.T) {
	want, _ := impl.WholeShadows(12)
	spoiled, _ := impl.WholeShadows(12)
	for i := range spoiled {
		_ = append(spoiled[i], -1, -1, -1)
		if !reflect.DeepEqual(spoiled, want) {
			t.Fatal("whole shadows share memory", spoiled)
		}
	}
	for i := range spoiled {
		spoiled[i][0], spoiled[i][1], spoiled[i][2] = -1, -1, -1
	}
	if again, _ := impl.WholeShadows(12); !reflect.DeepEqual(again, want) {
		t.Error("whole shadows are kept between calls", again)
	}
	poles, _ := impl.ParsePoles("2|3,4|2,5|1,9|1")
	same, _ := impl.ParsePoles("2|3,4|2,5|1,9|1")
	dark, _ := impl.DarkPlaces(6, poles, 12)
	hidden, _ := impl.HiddenPoles(6, poles)
	for i := range dark {
		dark[i] = -1
	}
	for i := range hidden {
		hidden[i] = -1
	}
	if again, _ := impl.DarkPlaces(6, poles, 12); !reflect.DeepEqual(again, []int{3, 4, 5, 6, 10}) {
		t.Error("dark places are kept between calls", again)
	}
	if again, _ := impl.HiddenPoles(6, poles); !reflect.DeepEqual(again, []int{2}) {
		t.Error("hidden poles are kept between calls", again)
	}
	poles[0] = impl.Pole{}
	if again, _ := impl.ParsePoles("2|3,4|2,5|1,9|1"); !reflect.DeepEqual(again, same) {
		t.Error("poles are kept between calls", again)
	}
}
