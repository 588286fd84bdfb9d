package tests

import (
	"math"
	"math/big"
	"reflect"
	"runtime"
	"slices"
	"strconv"
	"strings"
	"sync"
	"testing"

	"loop.example/g01351/impl"
)

// boxNumbers are ints at and around every limit of chapter 7, and at the ends of what an int can be.
var boxNumbers = []int{
	math.MinInt, math.MinInt + 1, -1 << 32, -1000, -60, -1, 0, 1, 2, 3, 6, 49, 50, 51, 59, 60, 61, 99, 100, 101,
	999, 1000, 1001, 1 << 31, 1 << 32, 1<<32 + 1, 1 << 62, math.MaxInt - 1, math.MaxInt,
}

// allBoxes calls check for every box.
func allBoxes(check func(b impl.Box)) {
	for wide := 1; wide <= 60; wide++ {
		for high := 1; high <= 60; high++ {
			check(impl.Box{Wide: wide, High: high})
		}
	}
}

// sampleBoxes calls check for some boxes: the least and the greatest ones, flat, narrow and as wide as high.
func sampleBoxes(check func(b impl.Box)) {
	sizes := []int{1, 2, 3, 4, 6, 12, 31, 59, 60}
	for _, wide := range sizes {
		for _, high := range sizes {
			check(impl.Box{Wide: wide, High: high})
		}
	}
}

// noBoxes are no boxes: one number is out of its limits, or both are.
func noBoxes() []impl.Box {
	all := []impl.Box{{}}
	for _, n := range boxNumbers {
		if n < 1 || n > 60 {
			all = append(all, impl.Box{Wide: n, High: 3}, impl.Box{Wide: 2, High: n}, impl.Box{Wide: n, High: n},
				impl.Box{Wide: n, High: 60}, impl.Box{Wide: 60, High: n})
		}
	}
	return all
}

// leaningLine is how high the line from a foot to a height is at a distance from the wall: less than 0 below the ground.
func leaningLine(foot int, height *big.Rat, away int) *big.Rat {
	return mul(height, rat(foot-away, foot))
}

// squareOverBox is the square of the length of the ladder that leans over a box from a foot: where it is at the corner it is just as high as the box.
func squareOverBox(b impl.Box, foot int) *big.Rat {
	height := new(big.Rat).Quo(rat(b.High, 1), leaningLine(foot, rat(1, 1), b.Wide))
	return add(rat(foot*foot, 1), mul(height, height))
}

// isLongEnough tells whether a ladder is at least as long as the one that leans over a box from a foot.
func isLongEnough(b impl.Box, foot int, long int) bool {
	return squareOverBox(b, foot).Cmp(rat(long*long, 1)) <= 0
}

// feetThatReach are the feet from which a ladder is long enough.
func feetThatReach(b impl.Box, long int) []int {
	var feet []int
	for foot := b.Wide + 1; foot <= long; foot++ {
		if isLongEnough(b, foot, long) {
			feet = append(feet, foot)
		}
	}
	return feet
}

// leansByDivisors are the whole leans over a box: what the foot is farther than Wide, times what the height is higher than High, is Wide times High.
func leansByDivisors(b impl.Box) [][]int {
	var leans [][]int
	product := b.Wide * b.High
	for farther := 1; farther <= product; farther++ {
		if product%farther == 0 {
			leans = append(leans, []int{b.Wide + farther, b.High + product/farther})
		}
	}
	return leans
}

func parsedBox(t *testing.T, s string) impl.Box {
	t.Helper()
	b, ok := impl.ParseBox(s)
	if !ok {
		t.Fatal(s, "is a box")
	}
	return b
}

func TestBoxExample(t *testing.T) {
	b := parsedBox(t, "2*3")
	if b != (impl.Box{Wide: 2, High: 3}) {
		t.Fatal(b)
	}
	if leans, ok := impl.WholeLeans(b); !ok || !reflect.DeepEqual(leans, [][]int{{3, 9}, {4, 6}, {5, 5}, {8, 4}}) {
		t.Error("leans", leans, ok)
	}
	if ladders, ok := impl.WholeLadders(b); !ok || len(ladders) != 0 {
		t.Error("ladders", ladders, ok)
	}
	if ladders, ok := impl.WholeLadders(parsedBox(t, "6*4")); !ok || !reflect.DeepEqual(ladders, [][]int{{9, 12, 15}}) {
		t.Error("ladders", ladders, ok)
	}
	if clear, ok := impl.IsClear(b, 5, 5); !clear || !ok {
		t.Error("clear", clear, ok)
	}
	if touches, ok := impl.JustTouches(b, 5, 5); !touches || !ok {
		t.Error("touches", touches, ok)
	}
	if long, foot, ok := impl.LeastLadder(parsedBox(t, "1*1")); long != 3 || foot != 2 || !ok {
		t.Error("least", long, foot, ok)
	}
	if n, ok := impl.CountSquareLeans(1, 3); n != 2 || !ok {
		t.Error("count", n, ok)
	}
	if side, ok := impl.GreatestSquareBox(17); side != 6 || !ok {
		t.Error("greatest", side, ok)
	}
	if heights, ok := impl.SlipHeights(10, 0, 3, 9); !ok || !slices.Equal(heights, []int{10, 9, 8, 4}) {
		t.Error("slips", heights, ok)
	}
}

func TestIsBox(t *testing.T) {
	allBoxes(func(b impl.Box) {
		if !impl.IsBox(b) {
			t.Fatal(b, "is a box")
		}
	})
	for _, b := range noBoxes() {
		if impl.IsBox(b) {
			t.Fatal(b, "is no box")
		}
	}
	for _, wide := range boxNumbers {
		for _, high := range boxNumbers {
			want := wide >= 1 && wide <= 60 && high >= 1 && high <= 60
			if impl.IsBox(impl.Box{Wide: wide, High: high}) != want {
				t.Fatal(wide, high, "is a box:", !want)
			}
		}
	}
}

// The corner of the box is on the line from the foot to the told height.
func TestHeightOver(t *testing.T) {
	sampleBoxes(func(b impl.Box) {
		for foot := 1; foot <= 1000; foot++ {
			call := func() (int, int, bool) { return impl.HeightOver(b, foot) }
			if foot <= b.Wide {
				failsWithZeros(t, []any{b, foot}, call)
				continue
			}
			height := told(t, []any{b, foot}, call)
			sameRat(t, []any{b, foot}, leaningLine(foot, height, b.Wide), rat(b.High, 1))
		}
	})
	for _, c := range []struct {
		text     string
		foot     int
		num, den int
	}{
		{"2*3", 3, 9, 1},
		{"2*3", 4, 6, 1},
		{"2*3", 5, 5, 1},
		{"2*3", 6, 9, 2},
		{"2*3", 7, 21, 5},
		{"2*3", 8, 4, 1},
		{"2*3", 1000, 1500, 499}, // limit met
		{"1*1", 2, 2, 1},
		{"1*60", 2, 120, 1},
		{"60*1", 61, 61, 1},
		{"60*60", 61, 3660, 1}, // far higher than a height that is given
		{"60*60", 1000, 3000, 47},
	} {
		if num, den, ok := impl.HeightOver(parsedBox(t, c.text), c.foot); num != c.num || den != c.den || !ok {
			t.Error(c, num, den, ok)
		}
	}
	for text, feet := range map[string][]int{"2*3": {0, 1, 2, 1001}, "1*1": {0, 1, 1001}, "60*60": {1, 59, 60, 1001}} {
		for _, foot := range append(feet, -1, -3, math.MinInt, math.MaxInt, 1<<32+5) {
			failsWithZeros(t, []any{text, foot}, func() (int, int, bool) { return impl.HeightOver(parsedBox(t, text), foot) })
		}
	}
}

// The corner is not above the line if a ladder is clear, and on it if it just touches.
func TestClearLeans(t *testing.T) {
	clear, touching, below := 0, 0, 0
	sampleBoxes(func(b impl.Box) {
		for _, foot := range []int{1, 2, 3, 4, 5, 7, 8, 10, 13, 30, 59, 60, 61, 62, 72, 120, 121, 999, 1000} {
			for _, height := range []int{1, 2, 3, 4, 5, 6, 7, 9, 12, 16, 59, 60, 61, 62, 90, 120, 999, 1000} {
				above := leaningLine(foot, rat(height, 1), b.Wide).Cmp(rat(b.High, 1))
				if got, ok := impl.IsClear(b, foot, height); got != (above >= 0) || !ok {
					t.Fatal(b, foot, height, "clear", got, ok)
				}
				if got, ok := impl.JustTouches(b, foot, height); got != (above == 0) || !ok {
					t.Fatal(b, foot, height, "touches", got, ok)
				}
				switch {
				case above > 0:
					clear++
				case above == 0:
					touching++
				default:
					below++
				}
			}
		}
	})
	if clear < 1000 || touching < 50 || below < 1000 {
		t.Error("not enough of each", clear, touching, below)
	}
	for _, c := range []struct {
		text         string
		foot, height int
		clear, touch bool
	}{
		{"2*3", 5, 5, true, true},
		{"2*3", 5, 6, true, false},
		{"2*3", 5, 4, false, false},
		{"2*3", 6, 5, true, false},
		{"2*3", 4, 5, false, false},
		{"2*3", 6, 4, false, false}, // touches between the heights 4 and 5
		{"2*3", 3, 9, true, true},
		{"2*3", 3, 8, false, false},
		{"2*3", 2, 1000, false, false}, // below the corner at the side of the box
		{"2*3", 1, 1000, false, false}, // behind the ground at the corner
		{"2*3", 1, 1, false, false},
		{"2*3", 1000, 3, false, false}, // below the corner, as it falls
		{"2*3", 1000, 4, true, false},
		{"2*3", 1000, 1000, true, false},
		{"1*1", 2, 2, true, true},
		{"1*1", 2, 1, false, false},
		{"1*1", 1, 1, false, false},
		{"1*1", 1, 1000, false, false},
		{"60*60", 120, 120, true, true},
		{"60*60", 119, 120, false, false},
		{"60*60", 120, 119, false, false},
		{"60*60", 64, 960, true, true},
		{"60*60", 63, 1000, false, false}, // 1260 would touch
		{"60*60", 60, 60, false, false},
		{"60*60", 59, 59, false, false},
		{"60*60", 1, 1, false, false},
	} {
		b := parsedBox(t, c.text)
		if got, ok := impl.IsClear(b, c.foot, c.height); got != c.clear || !ok {
			t.Error(c, "clear", got, ok)
		}
		if got, ok := impl.JustTouches(b, c.foot, c.height); got != c.touch || !ok {
			t.Error(c, "touches", got, ok)
		}
	}
	for _, n := range boxNumbers {
		for _, c := range [][2]int{{n, 5}, {5, n}, {n, n}, {n, 1000}, {1000, n}} {
			want := n >= 1 && n <= 1000
			if got, ok := impl.IsClear(impl.Box{Wide: 2, High: 3}, c[0], c[1]); ok != want || !ok && got {
				t.Error(c, "clear", got, ok)
			}
			if got, ok := impl.JustTouches(impl.Box{Wide: 2, High: 3}, c[0], c[1]); ok != want || !ok && got {
				t.Error(c, "touches", got, ok)
			}
		}
	}
}

// Promise 7: whole leans just touch the box, and they are all.
func TestWholeLeans(t *testing.T) {
	allBoxes(func(b impl.Box) {
		leans, ok := impl.WholeLeans(b)
		if !ok || !reflect.DeepEqual(leans, leansByDivisors(b)) {
			t.Fatal(b, leans, ok)
		}
		for _, l := range leans {
			sameRat(t, []any{b, l}, leaningLine(l[0], rat(l[1], 1), b.Wide), rat(b.High, 1))
			if l[0] > 1000 || l[1] > 1000 { // no foot, or no height, that may be given
				continue
			}
			if touches, ok := impl.JustTouches(b, l[0], l[1]); !touches || !ok {
				t.Fatal(b, l, "does not touch", touches, ok)
			}
			if clear, ok := impl.IsClear(b, l[0], l[1]); !clear || !ok {
				t.Fatal(b, l, "is not clear", clear, ok)
			}
		}
		// The box may be laid on its side: feet are heights then.
		turned, ok := impl.WholeLeans(impl.Box{Wide: b.High, High: b.Wide})
		if !ok || len(turned) != len(leans) {
			t.Fatal(b, "turned", turned, ok)
		}
		for k, l := range turned {
			if mirrored := leans[len(leans)-1-k]; l[0] != mirrored[1] || l[1] != mirrored[0] {
				t.Fatal(b, "turned", turned, leans)
			}
		}
	})
	for wide := 1; wide <= 7; wide++ {
		for high := 1; high <= 7; high++ {
			var want [][]int
			for foot := 1; foot <= 70; foot++ {
				for height := 1; height <= 70; height++ {
					if touches, _ := impl.JustTouches(impl.Box{Wide: wide, High: high}, foot, height); touches {
						want = append(want, []int{foot, height})
					}
				}
			}
			if leans, ok := impl.WholeLeans(impl.Box{Wide: wide, High: high}); !ok || !reflect.DeepEqual(leans, want) {
				t.Fatal(wide, high, leans, ok, "instead of", want)
			}
		}
	}
}

func TestSomeWholeLeans(t *testing.T) {
	for text, want := range map[string][][]int{
		"1*1":  {{2, 2}},
		"1*2":  {{2, 4}, {3, 3}},
		"2*1":  {{3, 3}, {4, 2}},
		"7*1":  {{8, 8}, {14, 2}},
		"1*60": {{2, 120}, {3, 90}, {4, 80}, {5, 75}, {6, 72}, {7, 70}, {11, 66}, {13, 65}, {16, 64}, {21, 63}, {31, 62}, {61, 61}},
		"60*1": {{61, 61}, {62, 31}, {63, 21}, {64, 16}, {65, 13}, {66, 11}, {70, 7}, {72, 6}, {75, 5}, {80, 4}, {90, 3}, {120, 2}},
		"5*5":  {{6, 30}, {10, 10}, {30, 6}},
		"6*4":  {{7, 28}, {8, 16}, {9, 12}, {10, 10}, {12, 8}, {14, 7}, {18, 6}, {30, 5}},
	} {
		if leans, ok := impl.WholeLeans(parsedBox(t, text)); !ok || !reflect.DeepEqual(leans, want) {
			t.Error(text, leans, ok)
		}
	}
	// However great: the heights and the feet have no limit.
	leans, ok := impl.WholeLeans(parsedBox(t, "60*60"))
	if !ok || len(leans) != 45 || !slices.Equal(leans[0], []int{61, 3660}) || !slices.Equal(leans[44], []int{3660, 61}) || !slices.Equal(leans[22], []int{120, 120}) {
		t.Error(leans, ok)
	}
}

// Whole ladders are the whole leans that are long by a whole number, and no others.
func TestWholeLadders(t *testing.T) {
	many := 0
	allBoxes(func(b impl.Box) {
		var want [][]int
		for _, l := range leansByDivisors(b) {
			if long, isWhole := isSquare(l[0]*l[0] + l[1]*l[1]); isWhole {
				want = append(want, []int{l[0], l[1], long})
			}
		}
		ladders, ok := impl.WholeLadders(b)
		if !ok || len(ladders) != len(want) || len(want) > 0 && !reflect.DeepEqual(ladders, want) {
			t.Fatal(b, ladders, ok, "instead of", want)
		}
		for _, l := range ladders {
			many++
			// It just reaches over the box from its foot: one that is shorter by 1 is too short.
			if reaches, ok := impl.ReachesOver(b, l[0], l[2]); !reaches || !ok {
				t.Fatal(b, l, "does not reach", reaches, ok)
			}
			if reaches, ok := impl.ReachesOver(b, l[0], l[2]-1); reaches || !ok {
				t.Fatal(b, l, "is too long", reaches, ok)
			}
		}
	})
	if many != 860 {
		t.Error("ladders over all boxes", many)
	}
	for text, want := range map[string][][]int{
		"4*6":   {{12, 9, 15}},
		"12*12": {{21, 28, 35}, {28, 21, 35}},
		"8*27":  {{44, 33, 55}},
		"30*40": {{60, 80, 100}, {105, 56, 119}},
		"60*60": {{85, 204, 221}, {105, 140, 175}, {140, 105, 175}, {204, 85, 221}},
		"55*60": {{66, 360, 366}, {80, 192, 208}},
	} {
		ladders, ok := impl.WholeLadders(parsedBox(t, text))
		if !ok || !reflect.DeepEqual(ladders, want) {
			t.Error(text, ladders, ok)
		}
	}
	for _, text := range []string{"1*1", "2*3", "3*2", "1*60", "60*1", "10*10", "59*60"} {
		if ladders, ok := impl.WholeLadders(parsedBox(t, text)); !ok || len(ladders) != 0 {
			t.Error(text, "has none", ladders, ok)
		}
	}
}

// Promise 7: ladders reach over from the told feet alone.
func TestFeetFor(t *testing.T) {
	sampleBoxes(func(b impl.Box) {
		for _, long := range []int{1, 2, 3, 4, 5, 8, 11, 15, 29, 34, 60, 61, 66, 90, 130, 169, 170, 171, 250} {
			want := feetThatReach(b, long)
			feet, ok := impl.FeetFor(b, long)
			if !ok || !slices.Equal(feet, want) {
				t.Fatal(b, long, feet, ok, "instead of", want)
			}
			for foot := b.Wide + 1; foot <= long+5; foot++ {
				if reaches, ok := impl.ReachesOver(b, foot, long); reaches != slices.Contains(want, foot) || !ok {
					t.Fatal(b, foot, long, "reaches", reaches, ok)
				}
			}
		}
	})
	for _, b := range []impl.Box{{Wide: 1, High: 1}, {Wide: 60, High: 60}, {Wide: 1, High: 60}, {Wide: 60, High: 1}, {Wide: 2, High: 3}} {
		for _, long := range []int{998, 999, 1000} {
			if feet, ok := impl.FeetFor(b, long); !ok || !slices.Equal(feet, feetThatReach(b, long)) {
				t.Fatal(b, long, feet, ok)
			}
		}
	}
	for _, c := range []struct {
		text string
		long int
		want []int
	}{
		{"1*1", 1, nil},
		{"1*1", 2, nil}, // as long as the box asks for in the end, but too short
		{"1*1", 3, []int{2}},
		{"1*1", 4, []int{2, 3}},
		{"2*3", 7, nil},
		{"2*3", 8, []int{4, 5, 6}},
		{"6*4", 14, nil},
		{"6*4", 15, []int{9, 10, 11, 12, 13}}, // just reaches from 9
		{"60*60", 169, nil},
		{"60*60", 170, []int{117, 118, 119, 120, 121, 122, 123, 124}},
		{"60*60", 60, nil}, // no longer than the box is wide
		{"60*60", 1, nil},
		{"10*10", 28, nil},
		{"10*10", 29, []int{18, 19, 20, 21, 22}},
	} {
		if feet, ok := impl.FeetFor(parsedBox(t, c.text), c.long); !ok || !slices.Equal(feet, c.want) {
			t.Error(c, feet, ok)
		}
	}
}

func TestReachesOver(t *testing.T) {
	for _, c := range []struct {
		text       string
		foot, long int
		reaches    bool
		fine       bool
	}{
		{"6*4", 9, 15, true, true}, // just so
		{"6*4", 9, 14, false, true},
		{"6*4", 9, 16, true, true},
		{"6*4", 9, 1000, true, true},
		{"6*4", 9, 1, false, true},
		{"6*4", 8, 15, false, true}, // 8 to 16
		{"6*4", 14, 15, false, true},
		{"6*4", 7, 28, false, true}, // 7 to 28
		{"6*4", 7, 29, true, true},
		{"6*4", 6, 1000, false, false}, // at the side of the box
		{"6*4", 5, 1000, false, false},
		{"6*4", 1, 15, false, false},
		{"6*4", 0, 15, false, false},
		{"6*4", 1000, 1000, false, true},
		{"6*4", 1001, 1000, false, false},
		{"6*4", 999, 1000, true, true},
		{"6*4", 16, 15, false, true}, // a foot may be farther than the ladder is long: from there it does not reach
		{"6*4", 9, 1001, false, false},
		{"6*4", 9, 0, false, false},
		{"6*4", 9, -15, false, false}, // its square is as great
		{"6*4", -9, 15, false, false},
		{"1*1", 2, 3, true, true},
		{"1*1", 2, 2, false, true},
		{"60*60", 61, 1000, false, true}, // would have to be longer than a ladder
		{"60*60", 105, 175, true, true},
		{"60*60", 105, 174, false, true},
		{"60*60", 60, 1000, false, false},
	} {
		if reaches, ok := impl.ReachesOver(parsedBox(t, c.text), c.foot, c.long); reaches != c.reaches || ok != c.fine {
			t.Error(c, reaches, ok)
		}
	}
	for _, n := range boxNumbers {
		b := impl.Box{Wide: 6, High: 4}
		if _, ok := impl.ReachesOver(b, n, 15); ok != (n >= 7 && n <= 1000) {
			t.Error("foot", n, ok)
		}
		if _, ok := impl.ReachesOver(b, 9, n); ok != (n >= 1 && n <= 1000) {
			t.Error("long", n, ok)
		}
		if feet, ok := impl.FeetFor(b, n); ok != (n >= 1 && n <= 1000) || !ok && len(feet) != 0 {
			t.Error("feet for", n, feet, ok)
		}
	}
}

// The least ladder reaches over from its foot, and from none before; no ladder that is shorter reaches over at all.
func TestLeastLadder(t *testing.T) {
	sampleBoxes(func(b impl.Box) {
		long, foot, ok := impl.LeastLadder(b)
		if !ok {
			t.Fatal(b, "has no least ladder")
		}
		if feet := feetThatReach(b, long); len(feet) == 0 || feet[0] != foot {
			t.Fatal(b, long, foot, feet)
		}
		if feet := feetThatReach(b, long-1); len(feet) != 0 {
			t.Fatal(b, long, "is not the least", feet)
		}
	})
	allBoxes(func(b impl.Box) {
		long, foot, ok := impl.LeastLadder(b)
		feet, feetOk := impl.FeetFor(b, long)
		shorter, shorterOk := impl.FeetFor(b, long-1)
		if !ok || !feetOk || !shorterOk || len(feet) == 0 || feet[0] != foot || len(shorter) != 0 {
			t.Fatal(b, long, foot, ok, feet, shorter)
		}
	})
	for text, want := range map[string][2]int{
		"1*1":   {3, 2},
		"1*2":   {5, 2},
		"2*1":   {5, 3},
		"2*3":   {8, 4},
		"3*2":   {8, 5},
		"6*4":   {15, 9}, // just reaches
		"4*6":   {15, 8},
		"7*1":   {11, 9},
		"1*60":  {66, 16},
		"60*1":  {66, 64},
		"10*10": {29, 18},
		"12*12": {34, 24}, // from one foot alone
		"8*27":  {47, 25},
		"27*8":  {47, 38},
		"59*60": {169, 113},
		"60*59": {169, 114},
		"60*60": {170, 117},
	} {
		if long, foot, ok := impl.LeastLadder(parsedBox(t, text)); long != want[0] || foot != want[1] || !ok {
			t.Error(text, long, foot, ok)
		}
	}
}

// The least ladder over a square box leans from twice its side: one that is longer touches from a foot that is nearer and from one that is farther, one that is shorter from none.
func TestCountSquareLeans(t *testing.T) {
	for side := 1; side <= 60; side++ {
		b := impl.Box{Wide: side, High: side}
		least := squareOverBox(b, 2*side)
		sameRat(t, side, least, rat(8*side*side, 1))
		for foot := side + 1; foot <= 5*side; foot++ {
			if squareOverBox(b, foot).Cmp(least) < 0 {
				t.Fatal(side, "has a shorter ladder from", foot)
			}
		}
		for long := 1; long <= 1000; long++ {
			want := 0
			if least.Cmp(rat(long*long, 1)) <= 0 {
				want = 2
			}
			if n, ok := impl.CountSquareLeans(side, long); n != want || !ok {
				t.Fatal(side, long, n, ok)
			}
			call := func() (int, int, bool) { return impl.SquareLeanSum(side, long) }
			if want == 0 {
				failsWithZeros(t, []any{side, long}, call)
				continue
			}
			sum, just, ok := call()
			more := sum - side
			isJust := more*more == side*side+long*long
			if !ok || more*more > side*side+long*long || (more+1)*(more+1) <= side*side+long*long || just != 0 && just != 1 || (just == 1) != isJust {
				t.Fatal(side, long, "sum", sum, just, ok)
			}
		}
	}
	for _, c := range []struct{ side, long, want int }{
		{1, 1, 0}, {1, 2, 0}, {1, 3, 2}, {2, 5, 0}, {2, 6, 2}, {6, 16, 0}, {6, 17, 2}, {7, 19, 0}, {7, 20, 2},
		{60, 169, 0}, {60, 170, 2}, {60, 1000, 2}, {1, 1000, 2}, {35, 98, 0}, {35, 99, 2},
	} {
		if n, ok := impl.CountSquareLeans(c.side, c.long); n != c.want || !ok {
			t.Error(c, n, ok)
		}
	}
}

// Foot and height of a whole ladder over a square box are the told sum together, and just that.
func TestSquareLeanSum(t *testing.T) {
	many := 0
	for side := 1; side <= 60; side++ {
		ladders, _ := impl.WholeLadders(impl.Box{Wide: side, High: side})
		for _, l := range ladders {
			many++
			if sum, just, ok := impl.SquareLeanSum(side, l[2]); sum != l[0]+l[1] || just != 1 || !ok {
				t.Error(side, l, sum, just, ok)
			}
		}
		leans, _ := impl.WholeSquareLeans(side)
		for _, l := range leans {
			// A little shorter or longer than this lean is: its sum is about as great.
			long, isWhole := isSquare(l[0]*l[0] + l[1]*l[1])
			if long > 1000 || isWhole {
				continue
			}
			if sum, _, ok := impl.SquareLeanSum(side, long+1); long < 1000 && (sum < l[0]+l[1] || !ok) {
				t.Error(side, l, "longer", sum, ok)
			}
			if sum, _, ok := impl.SquareLeanSum(side, long); ok && sum >= l[0]+l[1] {
				t.Error(side, l, "shorter", sum, ok)
			}
		}
	}
	if many == 0 {
		t.Error("no whole ladders")
	}
	for _, c := range []struct {
		side, long int
		sum, just  int
		fine       bool
	}{
		{12, 35, 49, 1, true}, // 21 and 28
		{60, 221, 289, 1, true},
		{60, 175, 245, 1, true},
		{7, 24, 32, 1, true}, // the sum is whole, foot and height are not
		{1, 3, 4, 0, true},
		{1, 1000, 1001, 0, true},
		{6, 17, 24, 0, true},
		{60, 170, 240, 0, true}, // 60 more than a little over 180
		{60, 169, 0, 0, false},
		{60, 1000, 1061, 0, true},
		{39, 760, 800, 1, true},
		{3, 4, 0, 0, false}, // 5, but no lean
		{1, 2, 0, 0, false},
		{1, 1, 0, 0, false},
		{8, 15, 0, 0, false},
	} {
		if sum, just, ok := impl.SquareLeanSum(c.side, c.long); sum != c.sum || just != c.just || ok != c.fine {
			t.Error(c, sum, just, ok)
		}
	}
}

func TestGreatestSquareBox(t *testing.T) {
	for long := 1; long <= 1000; long++ {
		want := 0
		for 8*(want+1)*(want+1) <= long*long {
			want++
		}
		side, ok := impl.GreatestSquareBox(long)
		if side != want || !ok {
			t.Fatal(long, side, ok)
		}
		if side >= 1 && side <= 60 {
			if n, ok := impl.CountSquareLeans(side, long); n != 2 || !ok {
				t.Fatal(long, side, "has no lean", n, ok)
			}
		}
		if side < 60 {
			if n, ok := impl.CountSquareLeans(side+1, long); n != 0 || !ok {
				t.Fatal(long, side+1, "has a lean", n, ok)
			}
		}
	}
	for long, want := range map[int]int{
		1: 0, 2: 0, 3: 1, 5: 1, 6: 2, 8: 2, 9: 3, 11: 3, 12: 4, 17: 6, 100: 35, 169: 59, 170: 60,
		173: 61, 999: 353, 1000: 353, // greater than a box
	} {
		if side, ok := impl.GreatestSquareBox(long); side != want || !ok {
			t.Error(long, side, ok)
		}
	}
	for _, n := range boxNumbers {
		if side, ok := impl.GreatestSquareBox(n); ok != (n >= 1 && n <= 1000) || !ok && side != 0 {
			t.Error(n, side, ok)
		}
		if many, ok := impl.CountSquareLeans(n, 500); ok != (n >= 1 && n <= 60) || !ok && many != 0 {
			t.Error(n, many, ok)
		}
		if many, ok := impl.CountSquareLeans(1, n); ok != (n >= 1 && n <= 1000) || !ok && many != 0 {
			t.Error(n, many, ok)
		}
		if n < 1 || n > 60 {
			failsWithZeros(t, n, func() (int, int, bool) { return impl.SquareLeanSum(n, 500) })
			failsWithZeros(t, n, func() (int, int, bool) { return impl.SquareLeanSum(n, 1000) })
			if leans, ok := impl.WholeSquareLeans(n); len(leans) != 0 || ok {
				t.Error(n, leans, ok)
			}
		}
		if n < 1 || n > 1000 {
			failsWithZeros(t, n, func() (int, int, bool) { return impl.SquareLeanSum(1, n) })
		}
	}
}

func TestWholeSquareLeans(t *testing.T) {
	for side := 1; side <= 60; side++ {
		all := leansByDivisors(impl.Box{Wide: side, High: side})
		// Every second one is the one before, turned, but for that with as long a foot as a height.
		want := all[:(len(all)+1)/2]
		if leans, ok := impl.WholeSquareLeans(side); !ok || !reflect.DeepEqual(leans, want) {
			t.Fatal(side, leans, ok)
		}
		if last := want[len(want)-1]; last[0] != 2*side || last[1] != 2*side {
			t.Fatal(side, last)
		}
	}
	for side, want := range map[int][][]int{
		1: {{2, 2}},
		2: {{3, 6}, {4, 4}},
		5: {{6, 30}, {10, 10}},
		6: {{7, 42}, {8, 24}, {9, 18}, {10, 15}, {12, 12}},
	} {
		if leans, ok := impl.WholeSquareLeans(side); !ok || !reflect.DeepEqual(leans, want) {
			t.Error(side, leans, ok)
		}
	}
}

// highestReach is the greatest number whose square, with that of what is across, is no more than the square of long.
func highestReach(long int, across int) int {
	height := 0
	for across*across+(height+1)*(height+1) <= long*long {
		height++
	}
	return height
}

func TestSlips(t *testing.T) {
	for _, long := range []int{1, 2, 5, 10, 13, 100, 999, 1000} {
		for _, foot := range []int{0, 1, long / 2, long - 1, long} {
			for _, by := range []int{1, 2, 3, 7, 20, long, 1000} {
				for _, slips := range []int{0, 1, 2, 9, 50} {
					what := []any{long, foot, by, slips}
					var want, drops []int
					for at := foot; at <= long && len(want) <= slips; at += by {
						want = append(want, highestReach(long, at))
						if k := len(want) - 1; k >= 1 {
							drops = append(drops, want[k-1]-want[k])
						}
					}
					if heights, ok := impl.SlipHeights(long, foot, by, slips); !ok || !slices.Equal(heights, want) {
						t.Fatal(what, heights, ok, "instead of", want)
					}
					if got, ok := impl.SlipDrops(long, foot, by, slips); !ok || !slices.Equal(got, drops) {
						t.Fatal(what, got, ok, "instead of", drops)
					}
				}
			}
		}
	}
	for _, c := range []struct {
		long, foot, by, slips int
		heights, drops        []int
	}{
		{10, 0, 3, 9, []int{10, 9, 8, 4}, []int{1, 1, 4}},
		{10, 0, 3, 3, []int{10, 9, 8, 4}, []int{1, 1, 4}},
		{10, 0, 3, 2, []int{10, 9, 8}, []int{1, 1}},
		{10, 0, 3, 0, []int{10}, nil},
		{10, 10, 1, 50, []int{0}, nil}, // lies on the ground
		{10, 10, 1000, 0, []int{0}, nil},
		{10, 9, 1, 50, []int{4, 0}, []int{4}}, // as far as it is long, just
		{10, 9, 2, 50, []int{4}, nil},
		{10, 0, 5, 9, []int{10, 8, 0}, []int{2, 8}},
		{10, 0, 1000, 50, []int{10}, nil},
		{1000, 0, 1000, 50, []int{1000, 0}, []int{1000}},
		{1000, 1, 1000, 50, []int{999}, nil},
		{5, 3, 1, 1, []int{4, 3}, []int{1}},
		{1, 0, 1, 1, []int{1, 0}, []int{1}},
		{1, 1, 1, 1, []int{0}, nil},
		{1000, 0, 20, 3, []int{1000, 999, 999, 998}, []int{1, 0, 1}},
	} {
		if heights, ok := impl.SlipHeights(c.long, c.foot, c.by, c.slips); !ok || !slices.Equal(heights, c.heights) {
			t.Error(c, heights, ok)
		}
		if drops, ok := impl.SlipDrops(c.long, c.foot, c.by, c.slips); !ok || !slices.Equal(drops, c.drops) {
			t.Error(c, drops, ok)
		}
	}
	if heights, ok := impl.SlipHeights(1000, 0, 20, 50); !ok || len(heights) != 51 || heights[50] != 0 || heights[49] != 198 {
		t.Error("all slips down to the ground", heights, ok)
	}
	if heights, ok := impl.SlipHeights(1000, 0, 1, 50); !ok || len(heights) != 51 {
		t.Error("all slips", heights, ok)
	}
}

func TestNoSlips(t *testing.T) {
	check := func(long int, foot int, by int, slips int, fine bool) {
		t.Helper()
		if heights, ok := impl.SlipHeights(long, foot, by, slips); ok != fine || !ok && len(heights) != 0 {
			t.Error(long, foot, by, slips, heights, ok)
		}
		if drops, ok := impl.SlipDrops(long, foot, by, slips); ok != fine || !ok && len(drops) != 0 {
			t.Error(long, foot, by, slips, drops, ok)
		}
	}
	for _, n := range boxNumbers {
		check(n, 0, 3, 9, n >= 1 && n <= 1000)
		check(n, 6, 3, 9, n >= 6 && n <= 1000) // a foot as far as the ladder is long, at most
		check(n, n, 3, 9, n >= 1 && n <= 1000)
		check(50, n, 3, 9, n >= 0 && n <= 50)
		check(1000, n, 3, 9, n >= 0 && n <= 1000)
		check(10, 0, n, 9, n >= 1 && n <= 1000)
		check(10, 10, n, 0, n >= 1 && n <= 1000)
		check(10, 0, 3, n, n >= 0 && n <= 50)
		check(10, 10, 3, n, n >= 0 && n <= 50) // also where it cannot slip
		check(n, n, n, n, n >= 1 && n <= 50)
	}
}

func TestFootForHeight(t *testing.T) {
	for _, long := range []int{1, 2, 3, 5, 10, 13, 25, 99, 100, 500, 999, 1000} {
		for height := 0; height <= long; height++ {
			foot, ok := impl.FootForHeight(long, height)
			if !ok || foot != highestReach(long, height) {
				t.Fatal(long, height, foot, ok)
			}
			// From this foot it reaches the height, at least.
			if heights, ok := impl.SlipHeights(long, foot, 1, 0); !ok || heights[0] < height {
				t.Fatal(long, height, foot, heights, ok)
			}
		}
	}
	for _, c := range []struct{ long, height, foot int }{
		{10, 0, 10}, {10, 6, 8}, {10, 8, 6}, {10, 9, 4}, {10, 10, 0}, {13, 12, 5}, {13, 5, 12}, {13, 6, 11},
		{1, 0, 1}, {1, 1, 0}, {2, 1, 1}, {1000, 0, 1000}, {1000, 999, 44}, {1000, 1000, 0}, {1000, 1, 999},
	} {
		if foot, ok := impl.FootForHeight(c.long, c.height); foot != c.foot || !ok {
			t.Error(c, foot, ok)
		}
	}
	for _, n := range boxNumbers {
		for _, c := range [][2]int{{n, 0}, {n, 1}, {n, n}, {10, n}, {1000, n}, {1, n}} {
			want := c[0] >= 1 && c[0] <= 1000 && c[1] >= 0 && c[1] <= c[0]
			if foot, ok := impl.FootForHeight(c[0], c[1]); ok != want || !ok && foot != 0 {
				t.Error(c, foot, ok)
			}
		}
	}
}

// The told place is on the ladder, and as high, for all the height, as the told part of the ladder is for all of it.
func TestPartOfLadder(t *testing.T) {
	lengths := []int{1, 2, 3, 7, 60, 100, 999, 1000}
	for _, foot := range lengths {
		for _, height := range lengths {
			for _, den := range []int{1, 2, 3, 4, 7, 60, 99, 100} {
				for num := 0; num <= den; num++ {
					what := []any{foot, height, num, den}
					part, ok := impl.PartOfLadder(foot, height, num, den)
					if len(part) != 4 || !ok {
						t.Fatal(what, part, ok)
					}
					away, up := listRat(t, what, part[:2]), listRat(t, what, part[2:])
					sameRat(t, what, up, mul(rat(height, 1), rat(num, den)))
					sameRat(t, what, add(mul(away, rat(1, foot)), mul(up, rat(1, height))), rat(1, 1))
				}
			}
			a, b, c, d, ok := impl.MiddleOf(foot, height)
			sameRat(t, []any{foot, height}, toldRat(t, "away", a, b, ok), rat(foot, 2))
			sameRat(t, []any{foot, height}, toldRat(t, "up", c, d, ok), rat(height, 2))
			if part, ok := impl.PartOfLadder(foot, height, 1, 2); !ok || !slices.Equal(part, []int{a, b, c, d}) {
				t.Fatal(foot, height, "half of it", part, ok)
			}
		}
	}
	for _, c := range []struct {
		foot, height, num, den int
		want                   []int
	}{
		{9, 12, 1, 3, []int{6, 1, 4, 1}},
		{9, 12, 2, 3, []int{3, 1, 8, 1}},
		{9, 12, 2, 6, []int{6, 1, 4, 1}}, // not in lowest terms
		{9, 12, 0, 1, []int{9, 1, 0, 1}}, // the foot
		{9, 12, 0, 100, []int{9, 1, 0, 1}},
		{9, 12, 1, 1, []int{0, 1, 12, 1}}, // the other end
		{9, 12, 100, 100, []int{0, 1, 12, 1}},
		{9, 12, 1, 4, []int{27, 4, 3, 1}},
		{1, 1, 1, 100, []int{99, 100, 1, 100}},
		{1000, 1000, 99, 100, []int{10, 1, 990, 1}}, // longer than 1000
		{1000, 1, 1, 7, []int{6000, 7, 1, 7}},
	} {
		if part, ok := impl.PartOfLadder(c.foot, c.height, c.num, c.den); !ok || !slices.Equal(part, c.want) {
			t.Error(c, part, ok)
		}
	}
	for _, c := range [][6]int{{9, 12, 9, 2, 6, 1}, {8, 6, 4, 1, 3, 1}, {1, 1, 1, 2, 1, 2}, {1000, 999, 500, 1, 999, 2}} {
		if a, b, up, den, ok := impl.MiddleOf(c[0], c[1]); a != c[2] || b != c[3] || up != c[4] || den != c[5] || !ok {
			t.Error(c, a, b, up, den, ok)
		}
	}
}

func TestNoPartsOfLadders(t *testing.T) {
	check := func(foot int, height int, num int, den int, fine bool) {
		t.Helper()
		if part, ok := impl.PartOfLadder(foot, height, num, den); ok != fine || !ok && len(part) != 0 {
			t.Error(foot, height, num, den, part, ok)
		}
	}
	for _, n := range boxNumbers {
		fine := n >= 1 && n <= 1000
		check(n, 12, 1, 3, fine)
		check(9, n, 1, 3, fine)
		check(n, n, 1, 3, fine)
		check(n, 12, 0, 1, fine)
		check(9, n, 1, 1, fine)
		check(9, 12, n, 50, n >= 0 && n <= 50)
		check(9, 12, n, 100, n >= 0 && n <= 100)
		check(9, 12, 0, n, n >= 1 && n <= 100)
		check(9, 12, 3, n, n >= 3 && n <= 100)
		check(9, 12, n, n, n >= 1 && n <= 100)
		check(9, 12, n, math.MaxInt, false)
		check(9, 12, -n, n, false)
		for _, c := range [][2]int{{n, 12}, {9, n}, {n, n}} {
			a, b, up, den, ok := impl.MiddleOf(c[0], c[1])
			if ok != fine || !ok && (a != 0 || b != 0 || up != 0 || den != 0) {
				t.Error(c, a, b, up, den, ok)
			}
		}
	}
}

// Every call with a box that is none fails with zeros.
func TestNoBoxes(t *testing.T) {
	for _, b := range noBoxes() {
		for _, n := range []int{1, 5, 61, 999, 1000} {
			failsWithZeros(t, b, func() (int, int, bool) { return impl.HeightOver(b, n) })
			for _, other := range []int{1, 5, 1000} {
				for _, call := range []func(impl.Box, int, int) (bool, bool){impl.IsClear, impl.JustTouches, impl.ReachesOver} {
					if is, ok := call(b, n, other); is || ok {
						t.Fatal(b, n, other, is, ok)
					}
				}
			}
			if feet, ok := impl.FeetFor(b, n); len(feet) != 0 || ok {
				t.Fatal(b, n, feet, ok)
			}
		}
		failsWithZeros(t, b, func() (int, int, bool) { return impl.LeastLadder(b) })
		for _, call := range []func(impl.Box) ([][]int, bool){impl.WholeLeans, impl.WholeLadders} {
			if leans, ok := call(b); len(leans) != 0 || ok {
				t.Fatal(b, leans, ok)
			}
		}
		if turned, ok := impl.TurnBox(b); turned != (impl.Box{}) || ok {
			t.Fatal(b, turned, ok)
		}
		if text, ok := impl.BoxText(b); text != "" || ok {
			t.Fatal(b, text, ok)
		}
	}
}

func TestTurnBox(t *testing.T) {
	allBoxes(func(b impl.Box) {
		turned, ok := impl.TurnBox(b)
		if turned != (impl.Box{Wide: b.High, High: b.Wide}) || !ok {
			t.Fatal(b, turned, ok)
		}
		if back, ok := impl.TurnBox(turned); back != b || !ok {
			t.Fatal(b, "turned twice", back, ok)
		}
	})
}

func TestBoxTexts(t *testing.T) {
	allBoxes(func(b impl.Box) {
		want := strconv.Itoa(b.Wide) + "*" + strconv.Itoa(b.High)
		if text, ok := impl.BoxText(b); text != want || !ok {
			t.Fatal(b, text, ok)
		}
		if back, ok := impl.ParseBox(want); back != b || !ok {
			t.Fatal(want, back, ok)
		}
	})
	for text, b := range map[string]impl.Box{"2*3": {Wide: 2, High: 3}, "1*60": {Wide: 1, High: 60}, "60*1": {Wide: 60, High: 1}, "10*12": {Wide: 10, High: 12}} {
		if got, ok := impl.ParseBox(text); got != b || !ok {
			t.Error(text, got, ok)
		}
		if got, ok := impl.BoxText(b); got != text || !ok {
			t.Error(b, got, ok)
		}
	}
}

// Texts that are almost BoxTexts are none.
func TestNoBoxTexts(t *testing.T) {
	for _, s := range []string{
		"", "*", "**", "2", "2*", "*3", "23", "2**3", "2*3*", "*2*3", "2*3*4", "2*3 ", " 2*3", "2 *3", "2* 3", "2*3\n", "2*3\x00", "2*3\xff", "\xff2*3",
		"02*3", "2*03", "00*3", "+2*3", "2*+3", "-2*3", "2*-3", "-2*-3", "-0*3", "0*3", "2*0", "0*0", "61*3", "2*61", "100*1", "1*100", "60*61", "61*60",
		"2x3", "2:3", "2|3", "2.3", "2/3", "2,3", "2\u00d73", "2\uff0a3", "2.0*3", "2*3.0", "0x2*3", "2*0x3", "2e0*3", "2*3e0", "1_0*3", "2*1_0",
		"18446744073709551618*3", "2*18446744073709551619", "9223372036854775808*3", "2*9223372036854775807", "-9223372036854775808*3", "4294967298*3", "2*4294967299",
		"\u0662*3", "2*\u0663", "a*b", "2*three",
		strings.Repeat("2*", 100000), strings.Repeat("*", 100000), strings.Repeat("9", 100000) + "*3", "2*" + strings.Repeat("0", 100000) + "3",
	} {
		if b, ok := impl.ParseBox(s); b != (impl.Box{}) || ok {
			t.Errorf("%.40q: %v %v", s, b, ok)
		}
	}
	// A text that is parsed is just the text of what it is parsed to: each byte of it counts.
	for _, base := range []string{"10*60", "2*3"} {
		for i := 0; i <= len(base); i++ {
			for c := range 256 {
				for j := i; j <= len(base); j++ {
					s := base[:i] + string([]byte{byte(c)}) + base[j:]
					b, ok := impl.ParseBox(s)
					if text, _ := impl.BoxText(b); ok && text != s || !ok && b != (impl.Box{}) {
						t.Fatalf("%q: %v %v", s, b, ok)
					}
				}
			}
		}
	}
}

// Promise 11: no number makes a call panic, in whatever place it is.
func TestBoxCallsNeverPanic(t *testing.T) {
	calm := func(...any) {}
	for _, a := range boxNumbers {
		calm(impl.GreatestSquareBox(a))
		calm(impl.WholeSquareLeans(a))
		for _, b := range boxNumbers {
			box := impl.Box{Wide: a, High: b}
			calm(impl.IsBox(box))
			calm(impl.WholeLeans(box))
			calm(impl.WholeLadders(box))
			calm(impl.LeastLadder(box))
			calm(impl.TurnBox(box))
			calm(impl.BoxText(box))
			calm(impl.CountSquareLeans(a, b))
			calm(impl.SquareLeanSum(a, b))
			calm(impl.FootForHeight(a, b))
			calm(impl.MiddleOf(a, b))
			for _, c := range boxNumbers {
				calm(impl.HeightOver(box, c))
				calm(impl.FeetFor(box, c))
				for _, d := range boxNumbers {
					calm(impl.IsClear(box, c, d))
					calm(impl.JustTouches(box, c, d))
					calm(impl.ReachesOver(box, c, d))
					calm(impl.SlipHeights(a, b, c, d))
					calm(impl.SlipDrops(a, b, c, d))
					calm(impl.PartOfLadder(a, b, c, d))
				}
			}
		}
	}
}

// Results are new memory: changing one changes neither another call's result nor another slice of the same one.
func TestLeansAreNew(t *testing.T) {
	b := impl.Box{Wide: 60, High: 60}
	for what, call := range map[string]func() ([][]int, bool){
		"leans":        func() ([][]int, bool) { return impl.WholeLeans(b) },
		"ladders":      func() ([][]int, bool) { return impl.WholeLadders(b) },
		"square leans": func() ([][]int, bool) { return impl.WholeSquareLeans(60) },
	} {
		want, _ := call()
		spoiled, _ := call()
		for k := range spoiled {
			_ = append(spoiled[k], -1, -1, -1)
			if !reflect.DeepEqual(spoiled, want) {
				t.Fatal(what, "share memory", spoiled)
			}
		}
		spoiled[1][0], spoiled[1][1] = -1, -1
		if !reflect.DeepEqual(spoiled[2:], want[2:]) || !reflect.DeepEqual(spoiled[0], want[0]) {
			t.Error(what, "share memory", spoiled)
		}
		if again, _ := call(); !reflect.DeepEqual(again, want) {
			t.Error(what, "are kept between calls", again)
		}
	}
	for what, call := range map[string]func() ([]int, bool){
		"feet":    func() ([]int, bool) { return impl.FeetFor(b, 200) },
		"heights": func() ([]int, bool) { return impl.SlipHeights(10, 0, 3, 9) },
		"drops":   func() ([]int, bool) { return impl.SlipDrops(10, 0, 3, 9) },
		"part":    func() ([]int, bool) { return impl.PartOfLadder(9, 12, 1, 3) },
	} {
		want, _ := call()
		spoiled, _ := call()
		for k := range spoiled {
			spoiled[k] = -1
		}
		if again, ok := call(); !ok || !slices.Equal(again, want) || len(want) == 0 {
			t.Error(what, "are kept between calls", again)
		}
	}
	if b != (impl.Box{Wide: 60, High: 60}) {
		t.Error("the box is modified", b)
	}
}

// Several goroutines look for the least ladder: none of them goes on behind a call, calls side by side do not disturb each other, and it does not matter which one finds a ladder first.
func TestLeastLaddersSideBySide(t *testing.T) {
	before := runtime.NumGoroutine()
	var group sync.WaitGroup
	for range 16 {
		group.Go(func() {
			for range 50 {
				for text, want := range map[string][2]int{"1*1": {3, 2}, "12*12": {34, 24}, "60*60": {170, 117}, "1*60": {66, 16}, "60*1": {66, 64}} {
					b, _ := impl.ParseBox(text)
					if long, foot, ok := impl.LeastLadder(b); long != want[0] || foot != want[1] || !ok {
						t.Error(text, long, foot, ok)
					}
				}
			}
		})
	}
	group.Wait()
	checkNoneGoesOn(t, before)
}
