package tests

import (
	"math"
	"math/big"
	"reflect"
	"runtime"
	"slices"
	"strconv"
	"strings"
	"sync"
	"testing"

	"loop.example/g01351/impl"
)

// spotNumbers are ints at and around every limit of chapter 5, and at the ends of what an int can be.
var spotNumbers = []int{
	math.MinInt, math.MinInt + 1, -1 << 32, -1001, -1000, -999, -1, 0, 1, 2, 3, 19, 20, 21, 49, 50, 51, 999, 1000, 1001,
	99999, 100000, 100001, 1 << 31, 1 << 32, 1<<32 + 1, 1 << 62, math.MaxInt - 1, math.MaxInt,
}

// sampleSpots are spots to the left, in the middle and to the right, low and high ones.
func sampleSpots() []impl.Spot {
	var all []impl.Spot
	for _, x := range []int{-1000, -999, -7, -2, -1, 0, 1, 2, 3, 8, 500, 999, 1000} {
		for _, y := range []int{1, 2, 3, 4, 9, 250, 999, 1000} {
			all = append(all, impl.Spot{X: x, Y: y})
		}
	}
	return all
}

// pairsOfSpots calls check for all two sample spots, also one with itself.
func pairsOfSpots(check func(a impl.Spot, b impl.Spot)) {
	for _, a := range sampleSpots() {
		for _, b := range sampleSpots() {
			check(a, b)
		}
	}
}

// noSpots are no spots: one number, or both, is out of its limits.
func noSpots() []impl.Spot {
	all := []impl.Spot{{}, {X: 1, Y: 0}, {X: 1, Y: -1}, {X: -1000, Y: 0}, {X: 1000, Y: 1001}}
	for _, n := range spotNumbers {
		if n < -1000 || n > 1000 {
			all = append(all, impl.Spot{X: n, Y: 1}, impl.Spot{X: n, Y: 1000}, impl.Spot{X: n, Y: n})
		}
		if n < 1 || n > 1000 {
			all = append(all, impl.Spot{X: 1, Y: n}, impl.Spot{X: 0, Y: n}, impl.Spot{X: -1000, Y: n})
		}
	}
	return all
}

// spotsInCorridors calls check for spots in corridors that are as low as they can be, and for higher ones.
func spotsInCorridors(check func(a impl.Spot, b impl.Spot, high int)) {
	xs := []int{-1000, -3, 0, 1, 8, 1000}
	for _, high := range []int{2, 3, 5, 8, 101, 1000} {
		ys := []int{1, 2, (high + 1) / 2, high - 2, high - 1}
		for _, ax := range xs {
			for _, bx := range xs {
				for _, ay := range ys {
					for _, by := range ys {
						if min(ay, by) >= 1 && max(ay, by) < high {
							check(impl.Spot{X: ax, Y: ay}, impl.Spot{X: bx, Y: by}, high)
						}
					}
				}
			}
		}
	}
}

// spotsInNoCorridors calls check for spots that are in no corridor so high: it is none, or one of both is none, or not below the ceiling.
func spotsInNoCorridors(check func(a impl.Spot, b impl.Spot, high int)) {
	a, b := impl.Spot{X: 0, Y: 2}, impl.Spot{X: 8, Y: 4}
	for _, n := range spotNumbers {
		if n < 2 || n > 1000 {
			check(a, b, n)
			check(impl.Spot{X: 0, Y: 1}, impl.Spot{X: 8, Y: 1}, n)
		}
	}
	for _, c := range noSpots() {
		check(c, b, 5)
		check(a, c, 5)
		check(c, c, 1000)
		check(c, impl.Spot{X: 1, Y: 1}, 2)
	}
	check(a, b, 2)
	check(a, b, 3)
	check(a, b, 4) // the ceiling is as high as one of them
	check(b, a, 4)
	check(b, b, 4)
	check(impl.Spot{X: 0, Y: 2}, impl.Spot{X: 0, Y: 1}, 2)
	check(impl.Spot{X: 0, Y: 1}, impl.Spot{X: 0, Y: 2}, 2)
	check(impl.Spot{X: 0, Y: 1000}, impl.Spot{X: 0, Y: 999}, 1000)
	check(impl.Spot{X: 0, Y: 999}, impl.Spot{X: 0, Y: 1000}, 1000)
}

// levelsOf are the heights at which a way in a corridor begins, touches and ends, one behind the other.
func levelsOf(a impl.Spot, b impl.Spot, high int, touches int, ground bool) []int {
	levels := []int{a.Y}
	for range touches {
		if ground {
			levels = append(levels, 0)
		} else {
			levels = append(levels, high)
		}
		ground = !ground
	}
	return append(levels, b.Y)
}

// riseOf goes from level to level.
func riseOf(levels []int) int {
	rise := 0
	for k := range levels[1:] {
		rise += max(levels[k+1]-levels[k], levels[k]-levels[k+1])
	}
	return rise
}

func squareOf(across int, up int) int {
	return across*across + up*up
}

// listRat is a fraction that is told as a list, in lowest terms.
func listRat(t *testing.T, what any, list []int) *big.Rat {
	t.Helper()
	if len(list) != 2 {
		t.Fatal(what, "is no fraction", list)
	}
	return toldRat(t, "a fraction in a list", list[0], list[1], true)
}

func TestLeastExample(t *testing.T) {
	a, okA := impl.ParseSpot("0,2")
	b, okB := impl.ParseSpot("8,4")
	if a != (impl.Spot{X: 0, Y: 2}) || b != (impl.Spot{X: 8, Y: 4}) || !okA || !okB {
		t.Fatal("parse", a, b, okA, okB)
	}
	if n, ok := impl.SquareStraight(a, b); n != 68 || !ok {
		t.Error("straight", n, ok)
	}
	if n, ok := impl.SquareByMirror(a, b); n != 100 || !ok {
		t.Error("by mirror", n, ok)
	}
	if num, den, ok := impl.TouchOf(a, b); num != 8 || den != 3 || !ok {
		t.Error("touch", num, den, ok)
	}
	if num, den, ok := impl.HeightForTouch(a, 8, 2); num != 6 || den != 1 || !ok {
		t.Error("height", num, den, ok)
	}
	c, d := impl.Spot{X: 2, Y: 1}, impl.Spot{X: 1, Y: 3}
	if n, ok := impl.SquareByCorner(c, d); n != 25 || !ok {
		t.Error("by corner", n, ok)
	}
	if s, ok := impl.OrderByCorner(c, d); s != "gw" || !ok {
		t.Error("order", s, ok)
	}
	if ground, wall, ok := impl.TouchesByCorner(c, d); !ok || !reflect.DeepEqual(ground, []int{5, 4}) || !reflect.DeepEqual(wall, []int{5, 3}) {
		t.Error("touches by corner", ground, wall, ok)
	}
	if n, ok := impl.RiseInCorridor(a, b, 5, 2, true); n != 8 || !ok {
		t.Error("rise, ground first", n, ok)
	}
	if n, ok := impl.RiseInCorridor(a, b, 5, 2, false); n != 12 || !ok {
		t.Error("rise, ceiling first", n, ok)
	}
	if first, n, ok := impl.BestInCorridor(a, b, 5, 2); !first || n != 128 || !ok {
		t.Error("best", first, n, ok)
	}
	if l, ok := impl.TouchesInCorridor(a, b, 5, 2, true); !ok || !reflect.DeepEqual(l, [][]int{{2, 1}, {7, 1}}) {
		t.Error("touches", l, ok)
	}
}

func TestIsSpot(t *testing.T) {
	for _, s := range sampleSpots() {
		if !impl.IsSpot(s) {
			t.Error(s, "is a spot")
		}
	}
	for _, s := range noSpots() {
		if impl.IsSpot(s) {
			t.Error(s, "is no spot")
		}
	}
	for _, x := range spotNumbers {
		for _, y := range spotNumbers {
			want := x >= -1000 && x <= 1000 && y >= 1 && y <= 1000
			if impl.IsSpot(impl.Spot{X: x, Y: y}) != want {
				t.Error(x, y, "is a spot:", !want)
			}
		}
	}
}

// Promise 5 for the ground: the way is as long as the straight one to the spot behind it, and touches where that goes through.
func TestWaysByTheGround(t *testing.T) {
	pairsOfSpots(func(a impl.Spot, b impl.Spot) {
		if n, ok := impl.SquareStraight(a, b); n != squareOf(a.X-b.X, a.Y-b.Y) || !ok {
			t.Fatal(a, b, "straight", n, ok)
		}
		behind := impl.Spot{X: b.X, Y: -b.Y}
		if n, ok := impl.SquareByMirror(a, b); n != squareOf(a.X-behind.X, a.Y-behind.Y) || !ok {
			t.Fatal(a, b, "by mirror", n, ok)
		}
		touch := told(t, a, func() (int, int, bool) { return impl.TouchOf(a, b) })
		// As steep before the touch as behind it, to the same side.
		before, after := sub(touch, rat(a.X, 1)), sub(rat(b.X, 1), touch)
		sameRat(t, [2]impl.Spot{a, b}, mul(before, rat(b.Y, 1)), mul(after, rat(a.Y, 1)))
		sameRat(t, [2]impl.Spot{b, a}, told(t, b, func() (int, int, bool) { return impl.TouchOf(b, a) }), touch)
		if whole, ok := impl.IsWholeTouch(a, b); whole != touch.IsInt() || !ok {
			t.Fatal(a, b, "whole touch", whole, ok)
		}
	})
}

func TestTouchesOfTheGround(t *testing.T) {
	for _, c := range []struct {
		a, b     string
		num, den int
	}{
		{"0,2", "8,4", 8, 3},
		{"8,4", "0,2", 8, 3},
		{"0,1", "0,1", 0, 1},
		{"0,1", "0,1000", 0, 1},
		{"-3,5", "3,5", 0, 1}, // at 0, between both
		{"-2,1", "4,2", 0, 1},
		{"-1000,1000", "1,1", 0, 1},
		{"-8,4", "0,2", -8, 3}, // less than 0
		{"-1000,1", "-1000,1000", -1000, 1},
		{"-1000,1", "-999,1", -1999, 2},
		{"-1,1", "0,1", -1, 2},
		{"-1,1000", "0,1", -1, 1001},
		{"999,7", "1000,7", 1999, 2},
		{"1000,1000", "1000,1", 1000, 1},
		{"-1000,1", "1000,1000", -999000, 1001},
		{"-4,2", "2,4", -2, 1},
	} {
		a, okA := impl.ParseSpot(c.a)
		b, okB := impl.ParseSpot(c.b)
		if num, den, ok := impl.TouchOf(a, b); num != c.num || den != c.den || !okA || !okB || !ok {
			t.Error(c, num, den, okA, okB, ok)
		}
		if whole, ok := impl.IsWholeTouch(a, b); whole != (c.den == 1) || !ok {
			t.Error(c, "whole", whole, ok)
		}
	}
}

// A spot as high as HeightForTouch tells has its touch at the place.
func TestHeightForTouch(t *testing.T) {
	xs := []int{-1000, -999, -8, -1, 0, 1, 2, 5, 8, 999, 1000}
	for _, a := range sampleSpots() {
		for _, x := range xs {
			for _, place := range xs {
				call := func() (int, int, bool) { return impl.HeightForTouch(a, x, place) }
				if !(a.X < place && place < x) && !(x < place && place < a.X) {
					failsWithZeros(t, []any{a, x, place}, call)
					continue
				}
				height := told(t, a, call)
				if height.Sign() <= 0 {
					t.Fatal(a, x, place, "height", height)
				}
				sameRat(t, []any{a, x, place}, mul(height, rat(place-a.X, 1)), rat(a.Y*(x-place), 1))
				if y := int(height.Num().Int64()); height.IsInt() && y <= 1000 {
					touch := told(t, a, func() (int, int, bool) { return impl.TouchOf(a, impl.Spot{X: x, Y: y}) })
					sameRat(t, []any{a, x, place, y}, touch, rat(place, 1))
				}
			}
		}
	}
	// The height that is told has no limit.
	if num, den, ok := impl.HeightForTouch(impl.Spot{X: -1000, Y: 1000}, 1000, -999); num != 1999000 || den != 1 || !ok {
		t.Error("great height", num, den, ok)
	}
	if num, den, ok := impl.HeightForTouch(impl.Spot{X: 1000, Y: 1}, -1000, -999); num != 1 || den != 1999 || !ok {
		t.Error("small height", num, den, ok)
	}
}

func TestHeightForTouchOutOfItsLimits(t *testing.T) {
	a := impl.Spot{X: 0, Y: 2}
	for _, n := range spotNumbers {
		failsWithZeros(t, n, func() (int, int, bool) { return impl.HeightForTouch(a, n, n) })
		failsWithZeros(t, n, func() (int, int, bool) { return impl.HeightForTouch(a, 0, n) })
		failsWithZeros(t, n, func() (int, int, bool) { return impl.HeightForTouch(a, n, 0) })
		if n < -1000 || n > 1000 {
			failsWithZeros(t, n, func() (int, int, bool) { return impl.HeightForTouch(a, n, 2) })
			failsWithZeros(t, n, func() (int, int, bool) { return impl.HeightForTouch(a, n, -2) })
			failsWithZeros(t, n, func() (int, int, bool) { return impl.HeightForTouch(a, 8, n) })
			failsWithZeros(t, n, func() (int, int, bool) { return impl.HeightForTouch(a, -8, n) })
		}
	}
	for _, s := range noSpots() {
		failsWithZeros(t, s, func() (int, int, bool) { return impl.HeightForTouch(s, 1000, 999) })
		failsWithZeros(t, s, func() (int, int, bool) { return impl.HeightForTouch(s, -1000, -999) })
	}
}

// checkLeg checks that one leg of a way goes as steep as all of it, and as far across as is told.
func checkLeg(t *testing.T, what any, across *big.Rat, up *big.Rat, allAcross int, allUp int) {
	t.Helper()
	if across.Sign()*allAcross < 0 || up.Sign()*allUp < 0 {
		t.Fatal(what, "goes back", across, up)
	}
	sameRat(t, what, mul(across, rat(allUp, 1)), mul(up, rat(allAcross, 1)))
}

// Promise 5 for corners: the way is as long as the straight one to the spot behind both mirrors, and goes down to the ground, to the wall, and on as steep as before.
func TestWaysByCorners(t *testing.T) {
	pairsOfSpots(func(a impl.Spot, b impl.Spot) {
		if a.X < 1 || b.X < 1 {
			return
		}
		what := [2]impl.Spot{a, b}
		across, up := a.X+b.X, a.Y+b.Y
		if n, ok := impl.SquareByCorner(a, b); n != squareOf(across, up) || !ok {
			t.Fatal(what, "square", n, ok)
		}
		groundList, wallList, ok := impl.TouchesByCorner(a, b)
		if !ok {
			t.Fatal(what, "fails")
		}
		ground, wall := listRat(t, what, groundList), listRat(t, what, wallList)
		order, ok := impl.OrderByCorner(a, b)
		if !ok {
			t.Fatal(what, "order fails")
		}
		ax, ay, bx, by := rat(a.X, 1), rat(a.Y, 1), rat(b.X, 1), rat(b.Y, 1)
		switch {
		case order == "gw" && ground.Sign() > 0 && wall.Sign() > 0: // to the left down, to the left up, to the right up
			checkLeg(t, what, sub(ax, ground), ay, across, up)
			checkLeg(t, what, ground, wall, across, up)
			checkLeg(t, what, bx, sub(by, wall), across, up)
		case order == "wg" && ground.Sign() > 0 && wall.Sign() > 0: // to the left down, to the right down, to the right up
			checkLeg(t, what, ax, sub(ay, wall), across, up)
			checkLeg(t, what, ground, wall, across, up)
			checkLeg(t, what, sub(bx, ground), by, across, up)
		case order == "c" && ground.Sign() == 0 && wall.Sign() == 0: // there and back by the corner itself
			checkLeg(t, what, ax, ay, across, up)
			checkLeg(t, what, bx, by, across, up)
		default:
			t.Fatal(what, "order", order, ground, wall)
		}
		back, ok := impl.OrderByCorner(b, a)
		if want := map[string]string{"gw": "wg", "wg": "gw", "c": "c"}[order]; back != want || !ok {
			t.Fatal(what, "order back", back, ok)
		}
	})
}

func TestTouchesOfCorners(t *testing.T) {
	for _, c := range []struct {
		a, b         impl.Spot
		order        string
		ground, wall []int
	}{
		{impl.Spot{X: 2, Y: 1}, impl.Spot{X: 1, Y: 3}, "gw", []int{5, 4}, []int{5, 3}},
		{impl.Spot{X: 1, Y: 3}, impl.Spot{X: 2, Y: 1}, "wg", []int{5, 4}, []int{5, 3}},
		{impl.Spot{X: 1, Y: 1}, impl.Spot{X: 1, Y: 1}, "c", []int{0, 1}, []int{0, 1}},
		{impl.Spot{X: 2, Y: 3}, impl.Spot{X: 4, Y: 6}, "c", []int{0, 1}, []int{0, 1}}, // both at once, at 0
		{impl.Spot{X: 1000, Y: 500}, impl.Spot{X: 2, Y: 1}, "c", []int{0, 1}, []int{0, 1}},
		{impl.Spot{X: 1000, Y: 1000}, impl.Spot{X: 1000, Y: 1000}, "c", []int{0, 1}, []int{0, 1}},
		{impl.Spot{X: 1000, Y: 1000}, impl.Spot{X: 999, Y: 1000}, "gw", []int{1, 2}, []int{1000, 1999}},
		{impl.Spot{X: 1000, Y: 1}, impl.Spot{X: 1, Y: 1000}, "gw", []int{999, 1}, []int{999, 1}},
		{impl.Spot{X: 1, Y: 1000}, impl.Spot{X: 1000, Y: 1}, "wg", []int{999, 1}, []int{999, 1}},
		{impl.Spot{X: 3, Y: 1}, impl.Spot{X: 1, Y: 1}, "gw", []int{1, 1}, []int{1, 2}},
	} {
		if order, ok := impl.OrderByCorner(c.a, c.b); order != c.order || !ok {
			t.Error(c, order, ok)
		}
		if ground, wall, ok := impl.TouchesByCorner(c.a, c.b); !ok || !reflect.DeepEqual(ground, c.ground) || !reflect.DeepEqual(wall, c.wall) {
			t.Error(c, ground, wall, ok)
		}
	}
}

// In a corner both spots have an X of at least 1.
func TestNoCorners(t *testing.T) {
	good := impl.Spot{X: 2, Y: 1}
	none := append(noSpots(), impl.Spot{X: 0, Y: 1}, impl.Spot{X: -1, Y: 1}, impl.Spot{X: -2, Y: 1000}, impl.Spot{X: -1000, Y: 3}, impl.Spot{X: 0, Y: 1000})
	for _, s := range none {
		for _, pair := range [][2]impl.Spot{{s, good}, {good, s}, {s, s}} {
			if n, ok := impl.SquareByCorner(pair[0], pair[1]); n != 0 || ok {
				t.Error(pair, "square", n, ok)
			}
			if order, ok := impl.OrderByCorner(pair[0], pair[1]); order != "" || ok {
				t.Error(pair, "order", order, ok)
			}
			if ground, wall, ok := impl.TouchesByCorner(pair[0], pair[1]); len(ground) != 0 || len(wall) != 0 || ok {
				t.Error(pair, "touches", ground, wall, ok)
			}
		}
	}
}

// Promise 5 for corridors: the way is as long as the straight one that goes as far across, and up as far as it goes from mirror to mirror.
func TestWaysInCorridors(t *testing.T) {
	spotsInCorridors(func(a impl.Spot, b impl.Spot, high int) {
		for _, touches := range []int{1, 2, 3, 4, 7, 49, 50} {
			var squares []int
			for _, ground := range []bool{true, false} {
				rise := riseOf(levelsOf(a, b, high, touches, ground))
				if n, ok := impl.RiseInCorridor(a, b, high, touches, ground); n != rise || !ok {
					t.Fatal(a, b, high, touches, ground, "rise", n, ok, "instead of", rise)
				}
				square := squareOf(a.X-b.X, rise)
				if n, ok := impl.SquareInCorridor(a, b, high, touches, ground); n != square || !ok {
					t.Fatal(a, b, high, touches, ground, "square", n, ok, "instead of", square)
				}
				squares = append(squares, square)
			}
			first, best, ok := impl.BestInCorridor(a, b, high, touches)
			if first != (squares[0] <= squares[1]) || best != min(squares[0], squares[1]) || !ok {
				t.Fatal(a, b, high, touches, "best", first, best, ok, "of", squares)
			}
		}
		one, _ := impl.SquareInCorridor(a, b, high, 1, true)
		if n, ok := impl.SquareByMirror(a, b); n != one || !ok {
			t.Fatal(a, b, high, "one touch", one, n, ok)
		}
	})
}

// Promise 5 for corridors: touches come one behind the other, on a way that is everywhere as steep.
func TestTouchesInCorridors(t *testing.T) {
	spotsInCorridors(func(a impl.Spot, b impl.Spot, high int) {
		for _, touches := range []int{1, 2, 3, 8, 50} {
			for _, ground := range []bool{true, false} {
				list, ok := impl.TouchesInCorridor(a, b, high, touches, ground)
				if !ok || len(list) != touches {
					t.Fatal(a, b, high, touches, ground, list, ok)
				}
				what := []any{a, b, high, touches, ground, list}
				places := []*big.Rat{rat(a.X, 1)}
				for _, place := range list {
					places = append(places, listRat(t, what, place))
				}
				places = append(places, rat(b.X, 1))
				levels := levelsOf(a, b, high, touches, ground)
				across, up := b.X-a.X, riseOf(levels)
				for k := range levels[1:] {
					leg := riseOf(levels[k : k+2])
					checkLeg(t, what, sub(places[k+1], places[k]), rat(leg, 1), across, up)
				}
			}
		}
		list, _ := impl.TouchesInCorridor(a, b, high, 1, true)
		num, den, ok := impl.TouchOf(a, b)
		if !ok || !reflect.DeepEqual(list, [][]int{{num, den}}) {
			t.Fatal(a, b, high, "one touch", list, num, den, ok)
		}
	})
}

func TestTouchesInOneCorridor(t *testing.T) {
	for _, c := range []struct {
		a, b          impl.Spot
		high, touches int
		ground        bool
		want          [][]int
	}{
		{impl.Spot{X: 0, Y: 2}, impl.Spot{X: 8, Y: 4}, 5, 2, false, [][]int{{2, 1}, {16, 3}}},
		{impl.Spot{X: 0, Y: 2}, impl.Spot{X: 8, Y: 4}, 5, 1, true, [][]int{{8, 3}}},
		{impl.Spot{X: 0, Y: 2}, impl.Spot{X: 8, Y: 4}, 5, 1, false, [][]int{{6, 1}}},
		{impl.Spot{X: -2, Y: 1}, impl.Spot{X: 2, Y: 1}, 2, 3, false, [][]int{{-4, 3}, {0, 1}, {4, 3}}},
		{impl.Spot{X: -2, Y: 1}, impl.Spot{X: 2, Y: 1}, 2, 1, true, [][]int{{0, 1}}},
		{impl.Spot{X: 0, Y: 1}, impl.Spot{X: 0, Y: 1}, 2, 3, true, [][]int{{0, 1}, {0, 1}, {0, 1}}},
		{impl.Spot{X: -1000, Y: 1}, impl.Spot{X: -1000, Y: 999}, 1000, 2, true, [][]int{{-1000, 1}, {-1000, 1}}},
		{impl.Spot{X: 0, Y: 1}, impl.Spot{X: -4, Y: 1}, 2, 2, true, [][]int{{-1, 1}, {-3, 1}}},
		{impl.Spot{X: -1000, Y: 500}, impl.Spot{X: 1000, Y: 500}, 1000, 2, true, [][]int{{-500, 1}, {500, 1}}},
	} {
		if l, ok := impl.TouchesInCorridor(c.a, c.b, c.high, c.touches, c.ground); !ok || !reflect.DeepEqual(l, c.want) {
			t.Error(c, l, ok)
		}
	}
}

// Where both ways are as long, that which touches the ground first counts as the best.
func TestBestOfTwoAsLong(t *testing.T) {
	for _, c := range []struct {
		a, b          impl.Spot
		high, touches int
		first         bool
		square        int
	}{
		{impl.Spot{X: 0, Y: 2}, impl.Spot{X: 4, Y: 3}, 5, 1, true, 41}, // both heights together as high as the corridor
		{impl.Spot{X: 0, Y: 2}, impl.Spot{X: 4, Y: 2}, 5, 1, true, 32},
		{impl.Spot{X: 0, Y: 3}, impl.Spot{X: 4, Y: 3}, 5, 1, false, 32},
		{impl.Spot{X: 0, Y: 3}, impl.Spot{X: 4, Y: 3}, 5, 2, true, 116}, // both as high
		{impl.Spot{X: 0, Y: 3}, impl.Spot{X: 4, Y: 2}, 5, 2, false, 97},
		{impl.Spot{X: 1000, Y: 999}, impl.Spot{X: -1000, Y: 1}, 1000, 50, false, 4000000 + 49002*49002},
		{impl.Spot{X: 7, Y: 1}, impl.Spot{X: 7, Y: 1}, 2, 50, true, 10000},
	} {
		if first, n, ok := impl.BestInCorridor(c.a, c.b, c.high, c.touches); first != c.first || n != c.square || !ok {
			t.Error(c, first, n, ok)
		}
	}
}

func TestWaysWithin(t *testing.T) {
	check := func(a impl.Spot, b impl.Spot, high int, long int) {
		t.Helper()
		want := 0
		for touches := 1; touches <= 50; touches++ {
			for _, ground := range []bool{true, false} {
				if squareOf(a.X-b.X, riseOf(levelsOf(a, b, high, touches, ground))) <= long*long {
					want++
				}
			}
		}
		if n, ok := impl.WaysWithin(a, b, high, long); n != want || !ok {
			t.Fatal(a, b, high, long, "ways", n, ok, "instead of", want)
		}
	}
	k := 0
	spotsInCorridors(func(a impl.Spot, b impl.Spot, high int) {
		if k++; k%7 == 0 {
			for _, long := range []int{0, 1, 2, 5, 8, 100, 999, 2000, 2001, 30000, 100000} {
				check(a, b, high, long)
			}
		}
	})
	a, b := impl.Spot{X: 0, Y: 1}, impl.Spot{X: 3, Y: 3} // with 1 touch 3 across and 4 up: 5 long
	for long := range 300 {
		check(a, b, 7, long)
	}
	for _, c := range []struct {
		high, long, want int
	}{{7, 4, 0}, {7, 5, 1}, {7, 100000, 100}, {1000, 49999, 99}, {1000, 100000, 100}, {4, 4, 0}, {4, 5, 2}, {4, 0, 0}} {
		if n, ok := impl.WaysWithin(a, b, c.high, c.long); n != c.want || !ok {
			t.Error(c, n, ok)
		}
	}
	// Straight up and down in a corridor 2 high: one way by each mirror for each number of touches, twice as long as that.
	for long := range 150 {
		if n, ok := impl.WaysWithin(impl.Spot{X: 4, Y: 1}, impl.Spot{X: 4, Y: 1}, 2, long); n != min(100, long/2*2) || !ok {
			t.Error(long, n, ok)
		}
	}
	for _, long := range spotNumbers {
		if n, ok := impl.WaysWithin(a, b, 7, long); (long < 0 || long > 100000) && (n != 0 || ok) {
			t.Error("long", long, n, ok)
		}
	}
}

func TestWholeWays(t *testing.T) {
	whole := 0
	check := func(a impl.Spot, b impl.Spot, high int) {
		t.Helper()
		var want []int
		for touches := 1; touches <= 50; touches++ {
			if _, ok := isSquare(squareOf(a.X-b.X, riseOf(levelsOf(a, b, high, touches, true)))); ok {
				want = append(want, touches)
			}
		}
		if l, ok := impl.WholeWays(a, b, high); !ok || !slices.Equal(l, want) {
			t.Fatal(a, b, high, l, ok, "instead of", want)
		}
		if len(want) > 0 && a.X != b.X {
			whole++
		}
	}
	spotsInCorridors(check)
	if whole == 0 {
		t.Error("no whole ways are checked")
	}
	every := make([]int, 50)
	for k := range every {
		every[k] = k + 1
	}
	for _, c := range []struct {
		a, b impl.Spot
		high int
		want []int
	}{
		{impl.Spot{X: 0, Y: 1}, impl.Spot{X: 3, Y: 3}, 7, []int{1}},    // 3 and 4
		{impl.Spot{X: 0, Y: 1}, impl.Spot{X: 0, Y: 1}, 2, every},       // straight up and down
		{impl.Spot{X: 0, Y: 1}, impl.Spot{X: 1, Y: 1}, 2, nil},         // no whole number at all
		{impl.Spot{X: 0, Y: 2}, impl.Spot{X: 8, Y: 4}, 5, []int{1}},    // 8 and 6
		{impl.Spot{X: 0, Y: 1}, impl.Spot{X: 200, Y: 1}, 3, []int{50}}, // 50 is the last one
	} {
		if l, ok := impl.WholeWays(c.a, c.b, c.high); !ok || !slices.Equal(l, c.want) {
			t.Error(c, l, ok)
		}
	}
}

// checkNoWay checks that all calls fail for two spots in no corridor, or with so many touches.
func checkNoWay(t *testing.T, a impl.Spot, b impl.Spot, high int, touches int) {
	t.Helper()
	what := []any{a, b, high, touches}
	for _, ground := range []bool{true, false} {
		if n, ok := impl.RiseInCorridor(a, b, high, touches, ground); n != 0 || ok {
			t.Error(what, ground, "rise", n, ok)
		}
		if n, ok := impl.SquareInCorridor(a, b, high, touches, ground); n != 0 || ok {
			t.Error(what, ground, "square", n, ok)
		}
		if l, ok := impl.TouchesInCorridor(a, b, high, touches, ground); len(l) != 0 || ok {
			t.Error(what, ground, "touches", l, ok)
		}
	}
	if first, n, ok := impl.BestInCorridor(a, b, high, touches); first || n != 0 || ok {
		t.Error(what, "best", first, n, ok)
	}
}

func TestNoCorridors(t *testing.T) {
	spotsInNoCorridors(func(a impl.Spot, b impl.Spot, high int) {
		for _, touches := range []int{1, 2, 50} {
			checkNoWay(t, a, b, high, touches)
		}
		for _, long := range []int{0, 10, 100000} {
			if n, ok := impl.WaysWithin(a, b, high, long); n != 0 || ok {
				t.Error(a, b, high, long, "ways within", n, ok)
			}
		}
		if l, ok := impl.WholeWays(a, b, high); len(l) != 0 || ok {
			t.Error(a, b, high, "whole ways", l, ok)
		}
	})
	for _, n := range spotNumbers {
		if n < 1 || n > 50 {
			checkNoWay(t, impl.Spot{X: 0, Y: 2}, impl.Spot{X: 8, Y: 4}, 5, n)
			checkNoWay(t, impl.Spot{X: 0, Y: 1}, impl.Spot{X: 0, Y: 1}, 2, n)
		}
	}
}

func TestNoSpots(t *testing.T) {
	good := impl.Spot{X: 2, Y: 1}
	for _, s := range noSpots() {
		for _, pair := range [][2]impl.Spot{{s, good}, {good, s}, {s, s}} {
			a, b := pair[0], pair[1]
			if n, ok := impl.SquareStraight(a, b); n != 0 || ok {
				t.Error(pair, "straight", n, ok)
			}
			if n, ok := impl.SquareByMirror(a, b); n != 0 || ok {
				t.Error(pair, "by mirror", n, ok)
			}
			failsWithZeros(t, pair, func() (int, int, bool) { return impl.TouchOf(a, b) })
			if whole, ok := impl.IsWholeTouch(a, b); whole || ok {
				t.Error(pair, "whole touch", whole, ok)
			}
			failsWithZeros(t, pair, func() (int, int, bool) { return impl.NearestByMirror(a, []impl.Spot{b}) })
			failsWithZeros(t, pair, func() (int, int, bool) { return impl.NearestByMirror(a, []impl.Spot{good, good, b}) })
		}
		for _, by := range []int{-1, 0, 1} {
			if moved, ok := impl.MoveSpot(s, by, by); moved != (impl.Spot{}) || ok {
				t.Error(s, "moved by", by, moved, ok)
			}
		}
		if moved, ok := impl.MoveSpot(s, -s.X, 1-s.Y); moved != (impl.Spot{}) || ok {
			t.Error(s, "moved", moved, ok)
		}
		if turned, ok := impl.TurnSpot(s); turned != (impl.Spot{}) || ok {
			t.Error(s, "turned", turned, ok)
		}
		if text, ok := impl.SpotText(s); text != "" || ok {
			t.Error(s, "text", text, ok)
		}
		if back, ok := impl.ParseSpot(strconv.Itoa(s.X) + "," + strconv.Itoa(s.Y)); back != (impl.Spot{}) || ok {
			t.Error(s, "parsed", back, ok)
		}
	}
}

// Promise 5 for lists: no spot is nearer by the ground than that which is told, and none before it is as near.
func TestNearestByMirror(t *testing.T) {
	all := sampleSpots()
	for k, a := range all {
		for n := 1; n <= 20; n++ {
			var list []impl.Spot
			for m := range n {
				list = append(list, all[(7*k+m*(k+13))%len(all)])
			}
			nearest, square, ok := impl.NearestByMirror(a, list)
			if !ok || nearest < 0 || nearest >= n {
				t.Fatal(a, list, nearest, square, ok)
			}
			for m, b := range list {
				other := squareOf(a.X-b.X, a.Y+b.Y)
				if other < square || m < nearest && other == square || m == nearest && other != square {
					t.Fatal(a, list, nearest, square, "but", m, "is", other)
				}
			}
		}
	}
	for _, c := range []struct {
		list            []impl.Spot
		nearest, square int
	}{
		{[]impl.Spot{{X: 8, Y: 4}}, 0, 100},
		{[]impl.Spot{{X: 8, Y: 4}, {X: -8, Y: 4}, {X: 6, Y: 6}}, 0, 100}, // the first one of three as near
		{[]impl.Spot{{X: 9, Y: 4}, {X: -8, Y: 4}, {X: 8, Y: 4}}, 1, 100},
		{[]impl.Spot{{X: 0, Y: 4}, {X: 4, Y: 1}}, 1, 25}, // nearer by the ground though farther straight
		{[]impl.Spot{{X: 1000, Y: 1000}, {X: -1000, Y: 1000}, {X: 1000, Y: 999}}, 2, 1000000 + 1001*1001},
	} {
		if nearest, square, ok := impl.NearestByMirror(impl.Spot{X: 0, Y: 2}, c.list); nearest != c.nearest || square != c.square || !ok {
			t.Error(c, nearest, square, ok)
		}
	}
}

// Lists of 20 spots are met exactly; 21 are too many, and none are not enough.
func TestListsOfSpots(t *testing.T) {
	a := impl.Spot{X: 0, Y: 2}
	var list []impl.Spot
	for k := range 22 {
		list = append(list, impl.Spot{X: 30 - k, Y: 4})
	}
	if nearest, square, ok := impl.NearestByMirror(a, list[:20]); nearest != 19 || square != 157 || !ok {
		t.Error("twenty", nearest, square, ok)
	}
	if nearest, square, ok := impl.NearestByMirror(a, list[:1]); nearest != 0 || square != 936 || !ok {
		t.Error("one", nearest, square, ok)
	}
	for _, none := range [][]impl.Spot{nil, {}, list[:0], list[:21], list, make([]impl.Spot, 1<<20), make([]impl.Spot, 20)} {
		failsWithZeros(t, len(none), func() (int, int, bool) { return impl.NearestByMirror(a, none) })
	}
}

func TestMovedAndTurnedSpots(t *testing.T) {
	steps := []int{-1001, -1000, -999, -500, -1, 0, 1, 3, 999, 1000, 1001}
	for _, s := range sampleSpots() {
		for _, x := range steps {
			for _, y := range steps {
				want := impl.Spot{X: s.X + x, Y: s.Y + y}
				fine := max(x, -x) <= 1000 && max(y, -y) <= 1000 && max(want.X, -want.X) <= 1000 && want.Y >= 1 && want.Y <= 1000
				if !fine {
					want = impl.Spot{}
				}
				if moved, ok := impl.MoveSpot(s, x, y); moved != want || ok != fine {
					t.Fatal(s, x, y, moved, ok)
				}
			}
		}
		if turned, ok := impl.TurnSpot(s); turned != (impl.Spot{X: -s.X, Y: s.Y}) || !ok {
			t.Fatal(s, "turned", turned, ok)
		}
	}
	for _, n := range spotNumbers {
		if n < -1000 || n > 1000 {
			for _, s := range []impl.Spot{{X: -1000, Y: 1}, {X: 0, Y: 500}, {X: 1000, Y: 1000}} {
				for _, by := range [][2]int{{n, 0}, {0, n}, {n, n}} {
					if moved, ok := impl.MoveSpot(s, by[0], by[1]); moved != (impl.Spot{}) || ok {
						t.Error(s, by, moved, ok)
					}
				}
			}
		}
	}
	// From one end to the other one no move is long enough.
	if moved, ok := impl.MoveSpot(impl.Spot{X: -1000, Y: 1}, 2000, 999); moved != (impl.Spot{}) || ok {
		t.Error("too far", moved, ok)
	}
	if moved, ok := impl.MoveSpot(impl.Spot{X: 0, Y: 1}, -1000, 999); moved != (impl.Spot{X: -1000, Y: 1000}) || !ok {
		t.Error("just as far", moved, ok)
	}
}

func TestSpotTexts(t *testing.T) {
	for x := -1000; x <= 1000; x++ {
		for _, y := range []int{1, 2, 9, 10, 500, 999, 1000} {
			s := impl.Spot{X: x, Y: y}
			want := strconv.Itoa(x) + "," + strconv.Itoa(y)
			if text, ok := impl.SpotText(s); text != want || !ok {
				t.Fatal(s, text, ok)
			}
			if back, ok := impl.ParseSpot(want); back != s || !ok {
				t.Fatal(want, back, ok)
			}
		}
	}
	for _, c := range []struct {
		s    impl.Spot
		text string
	}{{impl.Spot{X: -3, Y: 7}, "-3,7"}, {impl.Spot{X: 0, Y: 1}, "0,1"}, {impl.Spot{X: -1000, Y: 1000}, "-1000,1000"}} {
		if text, ok := impl.SpotText(c.s); text != c.text || !ok {
			t.Error(c, text, ok)
		}
	}
}

// Texts that are almost SpotTexts are none.
func TestNoSpotTexts(t *testing.T) {
	for _, s := range []string{
		"", ",", "3", "3,", ",2", "3,,2", "3,2,", ",3,2", "3,2,1", "3 ,2", "3, 2", " 3,2", "3,2 ", "3,2\n", "3,2\x00", "+3,2", "3,+2", "3,-2", "-3,-2",
		"--3,2", "-,2", "- 3,2", "3-,2", "-0,2", "+0,2", "00,2", "03,2", "-03,2", "3,02", "3,0", "0,0", "3,-0", "-0,0", "1001,2", "-1001,2", "3,1001",
		"3;2", "3.2", "3:2", "3/2", "3x2", "3.0,2", "3e0,2", "1_0,2", "0x3,2", "0b1,2", "\u22123,2",
		"9223372036854775807,1", "9223372036854775808,1", "18446744073709551619,2", "3,18446744073709551618", "-9223372036854775808,1",
		"-9223372036854775809,1", "4294967299,2", "-18446744073709551613,2", "\u0663,2", "3\uff0c2", "3,2\xff", "\xff3,2",
		strings.Repeat("1,", 100000), strings.Repeat("9", 100000) + ",1", strings.Repeat("-", 100000) + "3,1",
	} {
		if a, ok := impl.ParseSpot(s); a != (impl.Spot{}) || ok {
			t.Errorf("%.40q: %v %v", s, a, ok)
		}
	}
	// A text that is parsed is just the text of what it is parsed to: each byte of it counts.
	const base = "-10,60"
	for i := 0; i <= len(base); i++ {
		for b := range 256 {
			for j := i; j <= len(base); j++ {
				s := base[:i] + string([]byte{byte(b)}) + base[j:]
				a, ok := impl.ParseSpot(s)
				if text, _ := impl.SpotText(a); ok && text != s || !ok && a != (impl.Spot{}) {
					t.Fatalf("%q: %v %v", s, a, ok)
				}
			}
		}
	}
}

// Promise 11: no number makes a call panic, in whatever place it is.
func TestLeastCallsNeverPanic(t *testing.T) {
	calm := func(...any) {}
	numbers := []int{math.MinInt, -1001, -1000, -1, 0, 1, 2, 50, 51, 1000, 1001, 100001, math.MaxInt}
	for _, ax := range numbers {
		for _, ay := range numbers {
			a := impl.Spot{X: ax, Y: ay}
			calm(impl.TurnSpot(a))
			calm(impl.SpotText(a))
			for _, bx := range numbers {
				for _, by := range numbers {
					b := impl.Spot{X: bx, Y: by}
					calm(impl.SquareStraight(a, b))
					calm(impl.SquareByMirror(a, b))
					calm(impl.TouchOf(a, b))
					calm(impl.IsWholeTouch(a, b))
					calm(impl.HeightForTouch(a, bx, by))
					calm(impl.SquareByCorner(a, b))
					calm(impl.OrderByCorner(a, b))
					calm(impl.TouchesByCorner(a, b))
					calm(impl.MoveSpot(a, bx, by))
					calm(impl.NearestByMirror(a, []impl.Spot{b, a}))
					for _, c := range numbers {
						calm(impl.WholeWays(a, b, c))
						calm(impl.WaysWithin(a, b, c, ay))
						calm(impl.WaysWithin(a, b, by, c))
						calm(impl.BestInCorridor(a, b, c, bx))
						calm(impl.RiseInCorridor(a, b, bx, c, true))
						calm(impl.SquareInCorridor(a, b, c, bx, false))
						calm(impl.TouchesInCorridor(a, b, c, bx, by > 1))
					}
				}
			}
		}
	}
}

// Promise 11: a list of spots is not modified, nor is what lies behind it in the same memory, nor does that count.
func TestSpotsAreNotModified(t *testing.T) {
	room := []impl.Spot{{X: 9, Y: 4}, {X: 8, Y: 4}, {X: -8, Y: 4}, {X: 0, Y: 2}, {}}
	before := slices.Clone(room)
	if nearest, square, ok := impl.NearestByMirror(impl.Spot{X: 0, Y: 2}, room[:3]); nearest != 1 || square != 100 || !ok {
		t.Error("nearest", nearest, square, ok)
	}
	impl.NearestByMirror(impl.Spot{X: 0, Y: 2}, room[:4])
	impl.NearestByMirror(impl.Spot{X: 0, Y: 2}, room)
	impl.NearestByMirror(impl.Spot{}, room[:4])
	if !slices.Equal(room, before) {
		t.Error("spots are modified", room)
	}
}

// Results are new memory: changing one changes neither another call's result nor another slice of the same one.
func TestLeastResultsAreNew(t *testing.T) {
	a, b := impl.Spot{X: 0, Y: 2}, impl.Spot{X: 8, Y: 4}
	want, _ := impl.TouchesInCorridor(a, b, 5, 9, true)
	spoiled, _ := impl.TouchesInCorridor(a, b, 5, 9, true)
	for k := range spoiled {
		_ = append(spoiled[k], -1, -1, -1)
		if !reflect.DeepEqual(spoiled, want) {
			t.Fatal("touches share memory", spoiled)
		}
	}
	spoiled[1][0], spoiled[1][1] = -1, -1
	if !reflect.DeepEqual(spoiled[2:], want[2:]) || !reflect.DeepEqual(spoiled[0], want[0]) {
		t.Error("touches share memory", spoiled)
	}
	if again, _ := impl.TouchesInCorridor(a, b, 5, 9, true); !reflect.DeepEqual(again, want) {
		t.Error("touches are kept between calls", again)
	}
	for _, c := range []impl.Spot{{X: 2, Y: 4}, {X: 4, Y: 8}} { // the second one is touched at 0 and 0
		ground, wall, _ := impl.TouchesByCorner(impl.Spot{X: 1, Y: 2}, c)
		other := slices.Clone(wall)
		ground[0], ground[1] = -1, -1
		_ = append(ground, -1, -1)
		if !slices.Equal(wall, other) {
			t.Error("ground and wall share memory", ground, wall)
		}
		if again, _, _ := impl.TouchesByCorner(impl.Spot{X: 1, Y: 2}, c); again[1] != 1 {
			t.Error("touches of a corner are kept between calls", again)
		}
	}
	numbers, _ := impl.WholeWays(a, b, 5)
	numbers[0] = -1
	if again, _ := impl.WholeWays(a, b, 5); again[0] != 1 {
		t.Error("whole ways are kept between calls", again)
	}
}

// The touches come from another goroutine: none of them goes on behind a call, and calls side by side do not disturb each other.
func TestTouchesSideBySide(t *testing.T) {
	before := runtime.NumGoroutine()
	var group sync.WaitGroup
	for range 16 {
		group.Go(func() {
			for x := range 100 {
				l, ok := impl.TouchesInCorridor(impl.Spot{X: 0, Y: 1}, impl.Spot{X: 10 * x, Y: 1}, 2, 50, true)
				if !ok || len(l) != 50 {
					t.Error(x, l, ok)
					return
				}
				for k := range l {
					if rat(l[k][0], l[k][1]).Cmp(rat((2*k+1)*x, 10)) != 0 {
						t.Error(x, k, l[k])
					}
				}
			}
		})
	}
	group.Wait()
	checkNoneGoesOn(t, before)
}
