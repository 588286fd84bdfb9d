package tests

import (
	"math"
	"math/big"
	"reflect"
	"slices"
	"strconv"
	"strings"
	"testing"

	"loop.example/g01351/impl"
)

// heightNumbers are ints at and around every limit of chapter 8, and at the ends of what an int can be.
var heightNumbers = []int{
	math.MinInt, math.MinInt + 1, -1 << 32, -2000, -100, -1, 0, 1, 2, 3, 4, 5, 29, 30, 31, 99, 100, 101, 102,
	1999, 2000, 2001, 1 << 31, 1 << 32, 1<<32 + 1, 1 << 62, math.MaxInt - 1, math.MaxInt,
}

var (
	sampleStaffs = []int{1, 2, 3, 5, 12, 49, 50, 99, 100}
	sampleSteps  = []int{1, 2, 3, 4, 7, 12, 60, 100, 101, 997, 1999, 2000}
)

// sampleIslands calls check for islands with the least and the greatest numbers, and for some whose second step is one longer than the first.
func sampleIslands(check func(i impl.Island)) {
	for _, staff := range sampleStaffs {
		for _, apart := range sampleSteps {
			for _, first := range sampleSteps {
				for _, second := range append([]int{first + 1, first + 2}, sampleSteps...) {
					if first < second && second <= 2000 {
						check(impl.Island{Staff: staff, Apart: apart, First: first, Second: second})
					}
				}
			}
		}
	}
}

// noIslands are no islands: one number is out of its limits, or all are, or the second step is not longer.
func noIslands() []impl.Island {
	all := []impl.Island{{}, {Staff: 5, Apart: 1000, First: 127, Second: 123}}
	for _, n := range heightNumbers {
		if n < 1 || n > 100 {
			all = append(all, impl.Island{Staff: n, Apart: 1000, First: 123, Second: 127}, impl.Island{Staff: n, Apart: 1, First: 1, Second: 2000})
		}
		if n < 1 || n > 2000 {
			all = append(all, impl.Island{Staff: 5, Apart: n, First: 123, Second: 127}, impl.Island{Staff: n, Apart: n, First: n, Second: n})
			all = append(all, impl.Island{Staff: 5, Apart: 1000, First: n, Second: n + 1}, impl.Island{Staff: 5, Apart: 1000, First: n - 1, Second: n})
		}
		if n < 1 || n > 126 {
			all = append(all, impl.Island{Staff: 5, Apart: 1000, First: n, Second: 127})
		}
		if n < 124 || n > 2000 {
			all = append(all, impl.Island{Staff: 5, Apart: 1000, First: 123, Second: n})
		}
		// As far back from both staffs there is no top that is seen.
		all = append(all, impl.Island{Staff: 5, Apart: 1000, First: n, Second: n})
	}
	return all
}

func parsedIsland(t *testing.T, s string) impl.Island {
	t.Helper()
	i, ok := impl.ParseIsland(s)
	if !ok {
		t.Fatal(s, "is an island")
	}
	return i
}

// spotAt is a place along the ground and how high it is there, less than 0 below the ground.
type spotAt struct {
	along *big.Rat
	up    *big.Rat
}

func at(along int, up int) spotAt {
	return spotAt{along: rat(along, 1), up: rat(up, 1)}
}

// sightAt is how high the straight line of sight through two spots is at a place.
func sightAt(a spotAt, b spotAt, along *big.Rat) *big.Rat {
	slope := new(big.Rat).Quo(sub(b.up, a.up), sub(b.along, a.along))
	return add(a.up, mul(slope, sub(along, a.along)))
}

// seenAtStep checks that a top is on the line from the ground, so far back from a staff, by its tip: the staff stands at a place, the top at 0, and all else at less than 0.
func seenAtStep(t *testing.T, what any, staff int, place *big.Rat, step *big.Rat, top *big.Rat) {
	t.Helper()
	ground := spotAt{along: sub(place, step), up: rat(0, 1)}
	tip := spotAt{along: place, up: rat(staff, 1)}
	sameRat(t, what, sightAt(ground, tip, rat(0, 1)), top)
}

// measuring is a function that is asked for a fraction by whole numbers: each at least 1 and at most as great as limits tell, and all of them besides as isFine tells.
type measuring struct {
	name   string
	call   func(n []int) (int, int, bool)
	limits []int
	isFine func(n []int) bool
}

func always(n []int) bool { return true }

func measurings() []measuring {
	island := func(n []int) impl.Island {
		return impl.Island{Staff: n[0], Apart: n[1], First: n[2], Second: n[3]}
	}
	secondIsLonger := func(n []int) bool { return n[2] < n[3] }
	return []measuring{
		{"TowerByShadow", func(n []int) (int, int, bool) { return impl.TowerByShadow(n[0], n[1], n[2]) }, []int{100, 2000, 2000}, always},
		{"TowerByMirror", func(n []int) (int, int, bool) { return impl.TowerByMirror(n[0], n[1], n[2]) }, []int{100, 2000, 2000}, always},
		{"TreeByStaff", func(n []int) (int, int, bool) { return impl.TreeByStaff(n[0], n[1], n[2], n[3]) }, []int{100, 100, 2000, 2000}, func(n []int) bool { return n[1] > n[0] }},
		{"StaffForTree", func(n []int) (int, int, bool) { return impl.StaffForTree(n[0], n[1], n[2], n[3]) }, []int{100, 2000, 2000, 2000}, func(n []int) bool { return n[1] > n[0] }},
		{"WellDepth", func(n []int) (int, int, bool) { return impl.WellDepth(n[0], n[1], n[2]) }, []int{2000, 100, 2000}, always},
		{"RiverWide", func(n []int) (int, int, bool) { return impl.RiverWide(n[0], n[1], n[2]) }, []int{2000, 2000, 2000}, always},
		{"IslandHeight", func(n []int) (int, int, bool) { return impl.IslandHeight(island(n)) }, []int{100, 2000, 2000, 2000}, secondIsLonger},
		{"IslandAway", func(n []int) (int, int, bool) { return impl.IslandAway(island(n)) }, []int{100, 2000, 2000, 2000}, secondIsLonger},
		{"HigherByStep", func(n []int) (int, int, bool) { return impl.HigherByStep(island(n)) }, []int{100, 2000, 2000, 2000}, func(n []int) bool { return n[2]+1 < n[3] }},
		{"SecondStep", func(n []int) (int, int, bool) { return impl.SecondStep(n[0], n[1], n[2], n[3]) }, []int{100, 2000, 2000, 2000}, func(n []int) bool { return n[3] > n[0] }},
		{"TowerByTwoSights", func(n []int) (int, int, bool) { return impl.TowerByTwoSights(n[0], n[1], n[2]) }, []int{2000, 2000, 2000}, func(n []int) bool { return n[1] > n[0] }},
		{"DistanceByTwoSights", func(n []int) (int, int, bool) { return impl.DistanceByTwoSights(n[0], n[1], n[2]) }, []int{2000, 2000, 2000}, func(n []int) bool { return n[1] > n[0] }},
	}
}

// accepts tells whether a function is to succeed for numbers.
func (m measuring) accepts(n []int) bool {
	for k, most := range m.limits {
		if n[k] < 1 || n[k] > most {
			return false
		}
	}
	return m.isFine(n)
}

func TestHeightExample(t *testing.T) {
	i := parsedIsland(t, "5|1000:123/127")
	if i != (impl.Island{Staff: 5, Apart: 1000, First: 123, Second: 127}) {
		t.Fatal(i)
	}
	for name, c := range map[string]struct {
		call     callOfTwo
		num, den int
	}{
		"shadow":      {func() (int, int, bool) { return impl.TowerByShadow(2, 3, 30) }, 20, 1},
		"mirror":      {func() (int, int, bool) { return impl.TowerByMirror(2, 3, 30) }, 20, 1},
		"tree":        {func() (int, int, bool) { return impl.TreeByStaff(2, 5, 4, 20) }, 20, 1},
		"staff":       {func() (int, int, bool) { return impl.StaffForTree(2, 20, 4, 20) }, 5, 1},
		"well":        {func() (int, int, bool) { return impl.WellDepth(3, 2, 1) }, 6, 1},
		"river":       {func() (int, int, bool) { return impl.RiverWide(6, 3, 5) }, 10, 1},
		"island":      {func() (int, int, bool) { return impl.IslandHeight(i) }, 1255, 1},
		"away":        {func() (int, int, bool) { return impl.IslandAway(i) }, 30750, 1},
		"second step": {func() (int, int, bool) { return impl.SecondStep(5, 1000, 123, 1255) }, 127, 1},
		"higher":      {func() (int, int, bool) { return impl.HigherByStep(i) }, 1250, 3},
		"sights":      {func() (int, int, bool) { return impl.TowerByTwoSights(2, 5, 12) }, 4, 1},
		"distance":    {func() (int, int, bool) { return impl.DistanceByTwoSights(2, 5, 12) }, 8, 1},
	} {
		if num, den, ok := c.call(); num != c.num || den != c.den || !ok {
			t.Error(name, num, den, ok)
		}
	}
	if a, b, c, d, ok := impl.StepsForIsland(1, 2, 3, 4); a != 2 || b != 1 || c != 3 || d != 1 || !ok {
		t.Error("steps", a, b, c, d, ok)
	}
}

// Promise 8: towers are measured by like triangles. Light falls on one line with the other, mirrored light goes up as it came down.
func TestTowers(t *testing.T) {
	for _, high := range sampleStaffs {
		for _, near := range sampleSteps {
			for _, far := range sampleSteps {
				what := []any{high, near, far}
				// Light by the tip of the staff comes to the ground where its shadow ends: from farther back it is as steep.
				byShadow := told(t, what, func() (int, int, bool) { return impl.TowerByShadow(high, near, far) })
				sameRat(t, what, sightAt(at(0, 0), at(near, high), rat(far, 1)), byShadow)
				// Behind the mirror the eyes are as far below the ground as they are above it.
				byMirror := told(t, what, func() (int, int, bool) { return impl.TowerByMirror(high, near, far) })
				sameRat(t, what, sightAt(at(-near, -high), at(0, 0), rat(far, 1)), byMirror)
				// The water is where the line from the eyes by the edge comes to the other side.
				depth := told(t, what, func() (int, int, bool) { return impl.WellDepth(far, high, near) })
				sameRat(t, what, sightAt(at(-near, high), at(0, 0), rat(far, 1)), new(big.Rat).Neg(depth))
			}
		}
	}
}

func TestRivers(t *testing.T) {
	for _, along := range sampleSteps {
		for _, back := range sampleSteps {
			for _, out := range sampleSteps {
				what := []any{along, back, out}
				wide := told(t, what, func() (int, int, bool) { return impl.RiverWide(along, back, out) })
				// The mark is at 0 on the bank, one is back and out from it, the thing is along it and across the river.
				sameRat(t, what, sightAt(at(-back, -out), at(0, 0), rat(along, 1)), wide)
			}
		}
	}
}

// The eyes, the tip of the staff and the top of the tree are on one line; a whole staff for a tree measures that tree.
func TestTrees(t *testing.T) {
	measured := 0
	for _, eyes := range sampleStaffs {
		for _, higher := range []int{1, 2, 3, 40, 50, 99, 1899, 1900, 1950, 1999} {
			for _, near := range sampleSteps {
				for _, far := range sampleSteps {
					what := []any{eyes, eyes + higher, near, far}
					byStaff := func() (int, int, bool) { return impl.TreeByStaff(eyes, eyes+higher, near, far) }
					if eyes+higher <= 100 {
						sameRat(t, what, sightAt(at(0, eyes), at(near, eyes+higher), rat(near+far, 1)), told(t, what, byStaff))
					} else {
						failsWithZeros(t, what, byStaff)
					}
					forTree := func() (int, int, bool) { return impl.StaffForTree(eyes, eyes+higher, near, far) }
					if eyes+higher > 2000 {
						failsWithZeros(t, what, forTree)
						continue
					}
					staff := told(t, what, forTree)
					sameRat(t, what, sightAt(at(0, eyes), at(near+far, eyes+higher), rat(near, 1)), staff)
					if staff.IsInt() && staff.Cmp(rat(100, 1)) <= 0 {
						measured++
						tree := told(t, what, func() (int, int, bool) { return impl.TreeByStaff(eyes, int(staff.Num().Int64()), near, far) })
						sameRat(t, what, tree, rat(eyes+higher, 1))
					}
				}
			}
		}
	}
	if measured < 100 {
		t.Error("not enough whole staffs", measured)
	}
}

// fractionCase is what a function tells for some numbers: 0 and 0 if it fails.
type fractionCase struct {
	n        []int
	num, den int
}

func TestSomeHeights(t *testing.T) {
	for name, cases := range map[string][]fractionCase{
		"TowerByShadow": {
			{[]int{2, 4, 7}, 7, 2},
			{[]int{1, 2000, 1}, 1, 2000},
			{[]int{100, 1, 2000}, 200000, 1}, // limits met: no limit for what is told
			{[]int{100, 2000, 2000}, 100, 1},
			{[]int{101, 1, 2000}, 0, 0},
			{[]int{100, 2001, 2000}, 0, 0},
			{[]int{100, 1, 2001}, 0, 0},
			{[]int{100, 0, 2000}, 0, 0}, // no shadow
			{[]int{0, 1, 1}, 0, 0},
		},
		"TowerByMirror": {
			{[]int{2, 4, 7}, 7, 2},
			{[]int{6, 4, 10}, 15, 1},
			{[]int{100, 1, 2000}, 200000, 1},
			{[]int{1, 2000, 1}, 1, 2000},
			{[]int{101, 1, 1}, 0, 0},
			{[]int{2, 0, 30}, 0, 0},
			{[]int{2, 3, 0}, 0, 0},
		},
		"TreeByStaff": {
			{[]int{2, 3, 4, 20}, 8, 1}, // a staff one higher than the eyes
			{[]int{2, 2, 4, 20}, 0, 0}, // as high: never
			{[]int{2, 1, 4, 20}, 0, 0},
			{[]int{99, 100, 7, 1}, 701, 7},
			{[]int{100, 100, 7, 1}, 0, 0},
			{[]int{100, 101, 7, 1}, 0, 0}, // no staff
			{[]int{1, 100, 1, 2000}, 198100, 1},
			{[]int{1, 100, 2000, 2000}, 199, 1},
			{[]int{1, 100, 2001, 2000}, 0, 0},
			{[]int{1, 100, 2000, 2001}, 0, 0},
			{[]int{1, 2, 2000, 1}, 4001, 2000},
			{[]int{3, 5, 6, 5}, 20, 3},
			{[]int{-1, 5, 4, 20}, 0, 0},
		},
		"StaffForTree": {
			{[]int{2, 3, 4, 20}, 13, 6}, // a tree one higher than the eyes
			{[]int{2, 2, 4, 20}, 0, 0},
			{[]int{2, 1, 4, 20}, 0, 0},
			{[]int{100, 101, 1, 1}, 201, 2},
			{[]int{100, 100, 1, 1}, 0, 0},
			{[]int{101, 102, 1, 1}, 0, 0},
			{[]int{100, 2000, 2000, 1}, 4000100, 2001}, // higher than a staff that is given
			{[]int{100, 2000, 1, 2000}, 202000, 2001},
			{[]int{100, 2001, 1, 2000}, 0, 0},
			{[]int{1, 2000, 2000, 2000}, 2001, 2},
			{[]int{1, 2, 2001, 1}, 0, 0},
			{[]int{1, 2, 1, 2001}, 0, 0},
		},
		"WellDepth": {
			{[]int{7, 2, 4}, 7, 2},
			{[]int{2000, 100, 1}, 200000, 1},
			{[]int{2000, 101, 1}, 0, 0},
			{[]int{2001, 100, 1}, 0, 0},
			{[]int{101, 1, 1}, 101, 1}, // wider than eyes are high at most
			{[]int{1, 1, 2000}, 1, 2000},
			{[]int{1, 1, 2001}, 0, 0},
			{[]int{3, 2, 0}, 0, 0}, // just at the edge
			{[]int{0, 2, 1}, 0, 0},
			{[]int{3, 0, 1}, 0, 0},
		},
		"RiverWide": {
			{[]int{7, 4, 2}, 7, 2},
			{[]int{2, 3, 5}, 10, 3},
			{[]int{2000, 1, 2000}, 4000000, 1},
			{[]int{1, 2000, 1}, 1, 2000},
			{[]int{2001, 1, 1}, 0, 0},
			{[]int{1, 2001, 1}, 0, 0},
			{[]int{1, 1, 2001}, 0, 0},
			{[]int{6, 0, 5}, 0, 0},
			{[]int{0, 3, 5}, 0, 0},
			{[]int{6, 3, 0}, 0, 0},
			{[]int{-6, -3, 5}, 0, 0},
		},
		"IslandHeight": {
			{[]int{5, 1000, 123, 124}, 5005, 1}, // a second step one longer
			{[]int{5, 1000, 123, 123}, 0, 0},
			{[]int{5, 1000, 123, 122}, 0, 0},
			{[]int{5, 1000, 123, 126}, 5015, 3},
			{[]int{1, 1, 1, 2000}, 2000, 1999},
			{[]int{1, 1, 1, 2}, 2, 1},
			{[]int{100, 2000, 1999, 2000}, 200100, 1},
			{[]int{101, 2000, 1999, 2000}, 0, 0},
			{[]int{100, 2001, 1999, 2000}, 0, 0},
			{[]int{100, 2000, 2000, 2001}, 0, 0},
			{[]int{5, 1000, 0, 4}, 0, 0},
		},
		"IslandAway": {
			{[]int{5, 1000, 123, 124}, 123000, 1},
			{[]int{5, 1000, 123, 123}, 0, 0},
			{[]int{99, 7, 4, 9}, 28, 5}, // whatever the staff is
			{[]int{1, 1, 1, 2000}, 1, 1999},
			{[]int{100, 2000, 1999, 2000}, 3998000, 1},
			{[]int{100, 2000, 1999, 2001}, 0, 0},
		},
		"HigherByStep": {
			{[]int{5, 1000, 123, 125}, 2500, 1},
			{[]int{5, 1000, 123, 124}, 0, 0}, // would be no island
			{[]int{5, 1000, 123, 123}, 0, 0},
			{[]int{1, 1, 1, 3}, 1, 2},
			{[]int{1, 1, 1, 2000}, 1, 3994002},
			{[]int{100, 2000, 1, 2000}, 100000, 1997001},
			{[]int{100, 2000, 1998, 2000}, 100000, 1},
			{[]int{100, 2000, 1999, 2000}, 0, 0},
			{[]int{100, 2000, 1999, 2001}, 0, 0},
			{[]int{1, 3, 1, 4}, 1, 2},
		},
		"SecondStep": {
			{[]int{5, 1000, 123, 6}, 5123, 1}, // a top one higher than the staff: farther than a step that is given
			{[]int{5, 1000, 123, 5}, 0, 0},
			{[]int{5, 1000, 123, 4}, 0, 0},
			{[]int{5, 1000, 123, 1254}, 158627, 1249},
			{[]int{1, 1, 1, 2000}, 2000, 1999},
			{[]int{100, 2000, 2000, 101}, 202000, 1},
			{[]int{100, 2000, 2000, 100}, 0, 0},
			{[]int{101, 2000, 2000, 102}, 0, 0},
			{[]int{100, 2000, 2000, 2000}, 40000, 19},
			{[]int{100, 2001, 2000, 2000}, 0, 0},
			{[]int{100, 2000, 2001, 2000}, 0, 0},
			{[]int{100, 2000, 2000, 2001}, 0, 0},
		},
		"TowerByTwoSights": {
			{[]int{2, 3, 12}, 12, 1}, // the farther sight rises by 1 for just one more
			{[]int{2, 2, 12}, 0, 0},
			{[]int{3, 2, 12}, 0, 0},
			{[]int{1, 1999, 1}, 1, 1998},
			{[]int{1, 2000, 2000}, 2000, 1999},
			{[]int{1999, 2000, 2000}, 2000, 1},
			{[]int{2000, 2001, 2000}, 0, 0},
			{[]int{1999, 2000, 2001}, 0, 0},
			{[]int{0, 1, 12}, 0, 0},
			{[]int{2, 6, 6}, 3, 2},
		},
		"DistanceByTwoSights": {
			{[]int{2, 3, 12}, 24, 1},
			{[]int{2, 2, 12}, 0, 0},
			{[]int{1999, 2000, 2000}, 3998000, 1},
			{[]int{2000, 2000, 2000}, 0, 0},
			{[]int{2000, 2001, 2000}, 0, 0},
			{[]int{1, 2000, 1}, 1, 1999},
			{[]int{3, 7, 6}, 9, 2},
			{[]int{3, 7, 0}, 0, 0},
		},
	} {
		checkCases(t, name, cases)
	}
}

func checkCases(t *testing.T, name string, cases []fractionCase) {
	t.Helper()
	for _, m := range measurings() {
		if m.name != name {
			continue
		}
		for _, c := range cases {
			if num, den, ok := m.call(c.n); num != c.num || den != c.den || ok != (c.den > 0) {
				t.Error(name, c, num, den, ok)
			}
		}
		return
	}
	t.Error(name, "is not there")
}

// A function accepts numbers up to its limits, and none out of them, in each place alone and in two places together.
func TestHeightsAtTheirLimits(t *testing.T) {
	for _, m := range measurings() {
		accepted, refused := 0, 0
		check := func(n []int) {
			t.Helper()
			num, den, ok := m.call(n)
			if ok != m.accepts(n) || ok && den < 1 || !ok && (num != 0 || den != 0) {
				t.Fatal(m.name, n, num, den, ok)
			}
			if ok {
				accepted++
			} else {
				refused++
			}
		}
		for _, base := range [][]int{{2, 5, 7, 20}, {1, 2, 3, 5}, {4, 99, 100, 101}, {1, 2, 1999, 2000}, {99, 100, 1, 2000}, {100, 101, 2, 102}} {
			for k := range m.limits {
				for _, a := range heightNumbers {
					n := slices.Clone(base)
					n[k] = a
					check(n)
					for _, b := range heightNumbers {
						n[(k+1)%len(m.limits)] = b
						check(n)
					}
				}
			}
		}
		for _, a := range heightNumbers {
			check([]int{a, a, a, a})
		}
		if accepted < 100 || refused < 100 {
			t.Error(m.name, "not enough of each", accepted, refused)
		}
	}
}

func TestIsIsland(t *testing.T) {
	sampleIslands(func(i impl.Island) {
		if !impl.IsIsland(i) {
			t.Fatal(i, "is an island")
		}
	})
	for _, i := range noIslands() {
		if impl.IsIsland(i) {
			t.Fatal(i, "is no island")
		}
	}
	for first := -1; first <= 40; first++ {
		for second := -1; second <= 40; second++ {
			if impl.IsIsland(impl.Island{Staff: 5, Apart: 1000, First: first, Second: second}) != (first >= 1 && first < second) {
				t.Fatal(first, second)
			}
		}
	}
}

// Promise 8: islands are seen at both steps.
func TestIslandsAreSeenAtBothSteps(t *testing.T) {
	sampleIslands(func(i impl.Island) {
		height := told(t, i, func() (int, int, bool) { return impl.IslandHeight(i) })
		away := told(t, i, func() (int, int, bool) { return impl.IslandAway(i) })
		firstStaff := new(big.Rat).Neg(away)
		seenAtStep(t, i, i.Staff, firstStaff, rat(i.First, 1), height)
		seenAtStep(t, i, i.Staff, sub(firstStaff, rat(i.Apart, 1)), rat(i.Second, 1), height)
	})
}

// From what an island measures, the steps are told back.
func TestStepsToldBack(t *testing.T) {
	many := 0
	sampleIslands(func(i impl.Island) {
		height := told(t, i, func() (int, int, bool) { return impl.IslandHeight(i) })
		away := told(t, i, func() (int, int, bool) { return impl.IslandAway(i) })
		if !height.IsInt() || height.Cmp(rat(2000, 1)) > 0 {
			return
		}
		high := int(height.Num().Int64())
		second := told(t, i, func() (int, int, bool) { return impl.SecondStep(i.Staff, i.Apart, i.First, high) })
		sameRat(t, i, second, rat(i.Second, 1))
		if !away.IsInt() || away.Cmp(rat(2000, 1)) > 0 {
			return
		}
		many++
		a, b, c, d, ok := impl.StepsForIsland(i.Staff, i.Apart, high, int(away.Num().Int64()))
		if a != i.First || b != 1 || c != i.Second || d != 1 || !ok {
			t.Fatal(i, a, b, c, d, ok)
		}
	})
	if many < 50 {
		t.Error("not enough whole islands", many)
	}
}

// Both told steps see the top, whatever fractions they are.
func TestStepsForIslands(t *testing.T) {
	for _, staff := range sampleStaffs {
		for _, apart := range sampleSteps {
			for _, higher := range []int{1, 2, 3, 7, 60, 1001, 1899, 1900} {
				for _, other := range sampleSteps {
					what := []any{staff, apart, staff + higher, other}
					checkSteps(t, what, staff, apart, staff+higher, other)
					// The first step tells where the first staff is: as far from the top as the line of sight needs from its tip.
					second := told(t, what, func() (int, int, bool) { return impl.SecondStep(staff, apart, other, staff+higher) })
					firstStaff := rat(-other*higher, staff)
					seenAtStep(t, what, staff, firstStaff, rat(other, 1), rat(staff+higher, 1))
					seenAtStep(t, what, staff, sub(firstStaff, rat(apart, 1)), second, rat(staff+higher, 1))
				}
			}
		}
	}
	for _, c := range []struct {
		n    [4]int
		want [4]int
	}{
		{[4]int{5, 1000, 6, 7}, [4]int{35, 1, 5035, 1}}, // a top one higher than the staff
		{[4]int{5, 1000, 1255, 2000}, [4]int{8, 1, 12, 1}},
		{[4]int{1, 1, 2000, 1}, [4]int{1, 1999, 2, 1999}},
		{[4]int{100, 2000, 2000, 2000}, [4]int{2000, 19, 4000, 19}},
		{[4]int{100, 2000, 101, 2000}, [4]int{200000, 1, 400000, 1}},
		{[4]int{2, 3, 6, 5}, [4]int{5, 2, 4, 1}}, // each in its own lowest terms
		{[4]int{2, 3, 6, 4}, [4]int{2, 1, 7, 2}},
	} {
		a, b, d, e, ok := impl.StepsForIsland(c.n[0], c.n[1], c.n[2], c.n[3])
		if [4]int{a, b, d, e} != c.want || !ok {
			t.Error(c, a, b, d, e, ok)
		}
	}
}

func checkSteps(t *testing.T, what any, staff int, apart int, height int, away int) {
	t.Helper()
	a, b, c, d, ok := impl.StepsForIsland(staff, apart, height, away)
	first, second := toldRat(t, "first", a, b, ok), toldRat(t, "second", c, d, ok)
	seenAtStep(t, what, staff, rat(-away, 1), first, rat(height, 1))
	seenAtStep(t, what, staff, rat(-away-apart, 1), second, rat(height, 1))
}

func TestNoStepsForIslands(t *testing.T) {
	check := func(staff int, apart int, height int, away int, fine bool) {
		t.Helper()
		a, b, c, d, ok := impl.StepsForIsland(staff, apart, height, away)
		if ok != fine || !ok && (a != 0 || b != 0 || c != 0 || d != 0) {
			t.Error(staff, apart, height, away, a, b, c, d, ok)
		}
	}
	for _, n := range heightNumbers {
		check(n, 2, 3, 4, n >= 1 && n <= 2)
		check(n, 2, 2000, 4, n >= 1 && n <= 100)
		check(1, n, 3, 4, n >= 1 && n <= 2000)
		check(5, 2, n, 4, n >= 6 && n <= 2000) // higher than the staff
		check(100, 2, n, 4, n >= 101 && n <= 2000)
		check(1, 2, 3, n, n >= 1 && n <= 2000)
		check(n, n, n, n, false) // as high as the staff
		check(1, n, n, n, n >= 2 && n <= 2000)
	}
	check(5, 1000, 5, 7, false)
	check(5, 1000, 4, 7, false)
	check(100, 1000, 101, 7, true)
	check(101, 1000, 102, 7, false)
}

// wholeIslandsBySearch are the whole islands by exact fractions of where both lines of sight are as high.
func wholeIslandsBySearch(staff int, apart int) [][]int {
	var list [][]int
	for first := 1; first <= 30; first++ {
		for second := first + 1; second <= 30; second++ {
			// Both rise by staff for each of their steps: from the first tip on, the farther one is behind by what it rises slower.
			slow, fast := rat(staff, second), rat(staff, first)
			away := new(big.Rat).Quo(mul(slow, rat(apart, 1)), sub(fast, slow))
			height := add(rat(staff, 1), mul(fast, away))
			if away.IsInt() && height.IsInt() {
				list = append(list, []int{first, second, int(height.Num().Int64()), int(away.Num().Int64())})
			}
		}
	}
	return list
}

func TestWholeIslands(t *testing.T) {
	for _, staff := range append([]int{4, 6, 60}, sampleStaffs...) {
		for _, apart := range append([]int{5, 6, 720, 1000}, sampleSteps...) {
			islands, ok := impl.WholeIslands(staff, apart)
			if !ok || !reflect.DeepEqual(islands, wholeIslandsBySearch(staff, apart)) {
				t.Fatal(staff, apart, islands, ok)
			}
			for _, row := range islands {
				i := impl.Island{Staff: staff, Apart: apart, First: row[0], Second: row[1]}
				sameRat(t, i, told(t, i, func() (int, int, bool) { return impl.IslandHeight(i) }), rat(row[2], 1))
				sameRat(t, i, told(t, i, func() (int, int, bool) { return impl.IslandAway(i) }), rat(row[3], 1))
			}
			// The last one has the longest second step there may be.
			if last := islands[len(islands)-1]; !slices.Equal(last, []int{29, 30, staff*apart + staff, 29 * apart}) {
				t.Fatal(staff, apart, last)
			}
		}
	}
}

func TestSomeWholeIslands(t *testing.T) {
	// Of 1 and 1 only those whose second step is one longer are whole.
	islands, ok := impl.WholeIslands(1, 1)
	if !ok || len(islands) != 29 {
		t.Fatal(islands, ok)
	}
	for k, row := range islands {
		if !slices.Equal(row, []int{k + 1, k + 2, 2, k + 1}) {
			t.Error(row)
		}
	}
	for _, c := range []struct {
		staff, apart int
		row          []int
		isThere      bool
	}{
		{2, 1, []int{2, 4, 3, 1}, true}, // both whole
		{2, 1, []int{1, 3}, false},      // high 3, but away 1 / 2
		{1, 2, []int{1, 3, 2, 1}, true}, // both whole
		{1, 3, []int{2, 4}, false},      // away 3, but high 5 / 2
		{1, 1, []int{2, 4}, false},      // away 1, but high 3 / 2
		{5, 1000, []int{26, 30, 1255, 6500}, true},
		{100, 2000, []int{10, 30, 10100, 1000}, true}, // a second step that is just MaxIslandStep
		{100, 2000, []int{29, 30, 200100, 58000}, true},
		{100, 2000, []int{30, 31}, false}, // one more
		{100, 2000, []int{11, 31}, false},
		{100, 2000, []int{1, 2, 200100, 2000}, true},
	} {
		islands, ok := impl.WholeIslands(c.staff, c.apart)
		k := slices.IndexFunc(islands, func(row []int) bool { return slices.Equal(row[:2], c.row[:2]) })
		if !ok || (k >= 0) != c.isThere || c.isThere && !slices.Equal(islands[k], c.row) {
			t.Error(c, islands, ok)
		}
	}
	if islands, ok := impl.WholeIslands(60, 60); !ok || !slices.IsSortedFunc(islands, slices.Compare) {
		t.Error("not in order", islands, ok)
	}
	for _, n := range heightNumbers {
		if islands, ok := impl.WholeIslands(n, 12); ok != (n >= 1 && n <= 100) || ok != (len(islands) > 0) {
			t.Error(n, "staff", islands, ok)
		}
		if islands, ok := impl.WholeIslands(12, n); ok != (n >= 1 && n <= 2000) || ok != (len(islands) > 0) {
			t.Error(n, "apart", islands, ok)
		}
		if islands, ok := impl.WholeIslands(n, n); ok != (n >= 1 && n <= 100) || ok != (len(islands) > 0) {
			t.Error(n, "both", islands, ok)
		}
	}
}

// With a second step that is less by 1 the island is as much higher as told.
func TestHigherByStep(t *testing.T) {
	sampleIslands(func(i impl.Island) {
		call := func() (int, int, bool) { return impl.HigherByStep(i) }
		shorter := impl.Island{Staff: i.Staff, Apart: i.Apart, First: i.First, Second: i.Second - 1}
		if shorter.First == shorter.Second {
			failsWithZeros(t, i, call)
			return
		}
		height := told(t, i, func() (int, int, bool) { return impl.IslandHeight(i) })
		higher := told(t, i, func() (int, int, bool) { return impl.IslandHeight(shorter) })
		sameRat(t, i, told(t, i, call), sub(higher, height))
	})
}

// Both sights come to one top, as high above the one place as above the other.
func TestTwoSights(t *testing.T) {
	for _, near := range sampleSteps {
		for _, far := range append([]int{near + 1, near + 2}, sampleSteps...) {
			for _, walk := range sampleSteps {
				what := []any{near, far, walk}
				tower := func() (int, int, bool) { return impl.TowerByTwoSights(near, far, walk) }
				distance := func() (int, int, bool) { return impl.DistanceByTwoSights(near, far, walk) }
				if far <= near || far > 2000 {
					failsWithZeros(t, what, tower)
					failsWithZeros(t, what, distance)
					continue
				}
				// The nearer place is at 0, the other one behind it.
				foot := told(t, what, distance)
				sameRat(t, what, sightAt(at(0, 0), at(near, 1), foot), told(t, what, tower))
				sameRat(t, what, sightAt(at(-walk, 0), at(far-walk, 1), foot), told(t, what, tower))
			}
		}
	}
}

// An island that is so many times as great is as many times as high and as far.
func TestTimesIsland(t *testing.T) {
	for _, by := range []int{1, 2, 3, 7, 16, 99, 100, 101, 1999, 2000} {
		sampleIslands(func(i impl.Island) {
			want := impl.Island{Staff: i.Staff * by, Apart: i.Apart * by, First: i.First * by, Second: i.Second * by}
			fine := want.Staff <= 100 && want.Apart <= 2000 && want.First <= 2000 && want.Second <= 2000
			got, ok := impl.TimesIsland(i, by)
			if ok != fine || fine && got != want || !fine && got != (impl.Island{}) {
				t.Fatal(i, by, got, ok)
			}
			if !fine {
				return
			}
			height := told(t, i, func() (int, int, bool) { return impl.IslandHeight(i) })
			away := told(t, i, func() (int, int, bool) { return impl.IslandAway(i) })
			sameRat(t, i, told(t, i, func() (int, int, bool) { return impl.IslandHeight(got) }), mul(height, rat(by, 1)))
			sameRat(t, i, told(t, i, func() (int, int, bool) { return impl.IslandAway(got) }), mul(away, rat(by, 1)))
		})
	}
	for _, c := range []struct {
		text string
		by   int
		want string
	}{
		{"5|1000:123/127", 1, "5|1000:123/127"},
		{"5|1000:123/127", 2, "10|2000:246/254"},
		{"5|1000:123/127", 3, ""}, // apart becomes too great
		{"5|1:1/2", 20, "100|20:20/40"},
		{"5|1:1/2", 21, ""}, // the staff does
		{"1|1:1/200", 10, "10|10:10/2000"},
		{"1|1:1/201", 10, ""}, // the second step does
		{"1|2000:1/2", 1, "1|2000:1/2"},
		{"1|1:1/2", 100, "100|100:100/200"},
		{"1|1:1/2", 101, ""},
		{"1|1:1/2", 2000, ""},
		{"1|1:1/2", 2001, ""},
		{"1|1:1/2", 0, ""},
		{"1|1:1/2", -1, ""},
	} {
		got, ok := impl.TimesIsland(parsedIsland(t, c.text), c.by)
		if text, _ := impl.IslandText(got); text != c.want || ok != (c.want != "") || !ok && got != (impl.Island{}) {
			t.Error(c, got, ok)
		}
	}
	for _, n := range heightNumbers {
		if got, ok := impl.TimesIsland(impl.Island{Staff: 1, Apart: 1, First: 1, Second: 2}, n); ok != (n >= 1 && n <= 100) || !ok && got != (impl.Island{}) {
			t.Error(n, got, ok)
		}
	}
	// Some numbers, far too great or far less than 0, would give the same island again if an int went round.
	for _, by := range []int{math.MinInt + 1, 1<<62 + 1, -1<<62 + 1, 1<<61 + 1} {
		if got, ok := impl.TimesIsland(impl.Island{Staff: 8, Apart: 8, First: 8, Second: 16}, by); ok || got != (impl.Island{}) {
			t.Error(by, got, ok)
		}
	}
}

// Every call with an island that is none fails with zeros.
func TestNoIslands(t *testing.T) {
	for _, i := range noIslands() {
		failsWithZeros(t, i, func() (int, int, bool) { return impl.IslandHeight(i) })
		failsWithZeros(t, i, func() (int, int, bool) { return impl.IslandAway(i) })
		failsWithZeros(t, i, func() (int, int, bool) { return impl.HigherByStep(i) })
		for _, by := range []int{1, 2, 0, math.MinInt} {
			if got, ok := impl.TimesIsland(i, by); got != (impl.Island{}) || ok {
				t.Fatal(i, by, got, ok)
			}
		}
		if text, ok := impl.IslandText(i); text != "" || ok {
			t.Fatal(i, text, ok)
		}
	}
}

func TestIslandTexts(t *testing.T) {
	sampleIslands(func(i impl.Island) {
		want := strconv.Itoa(i.Staff) + "|" + strconv.Itoa(i.Apart) + ":" + strconv.Itoa(i.First) + "/" + strconv.Itoa(i.Second)
		if text, ok := impl.IslandText(i); text != want || !ok {
			t.Fatal(i, text, ok)
		}
		if back, ok := impl.ParseIsland(want); back != i || !ok {
			t.Fatal(want, back, ok)
		}
	})
	for text, i := range map[string]impl.Island{
		"5|1000:123/127":     {Staff: 5, Apart: 1000, First: 123, Second: 127},
		"1|1:1/2":            {Staff: 1, Apart: 1, First: 1, Second: 2},
		"100|2000:1999/2000": {Staff: 100, Apart: 2000, First: 1999, Second: 2000},
		"10|20:30/40":        {Staff: 10, Apart: 20, First: 30, Second: 40},
	} {
		if got, ok := impl.ParseIsland(text); got != i || !ok {
			t.Error(text, got, ok)
		}
		if got, ok := impl.IslandText(i); got != text || !ok {
			t.Error(i, got, ok)
		}
	}
}

// Texts that are almost IslandTexts are none.
func TestNoIslandTexts(t *testing.T) {
	for _, s := range []string{
		"", "|", ":", "/", "|:/", "5", "5|1000", "5|1000:123", "5|1000:123/", "5|1000:/127", "5|:123/127", "|1000:123/127", "1000:123/127", "5|123/127",
		"5|1000/123:127", "5:1000|123/127", "5/1000:123|127", "123/127:5|1000", "5|1000:123|127", "5:1000:123/127", "5|1000/123/127",
		"5||1000:123/127", "5|1000::123/127", "5|1000:123//127", "5|1000:123/127/", "5|1000:123/127/1", "5|1000:123/127|1", "5|1000:123/127:1", "|5|1000:123/127", ":5|1000:123/127",
		" 5|1000:123/127", "5|1000:123/127 ", "5 |1000:123/127", "5|1000: 123/127", "5|1000:123/127\n", "5|1000:123/127\x00", "\xff5|1000:123/127",
		"05|1000:123/127", "5|01000:123/127", "5|1000:0123/127", "5|1000:123/0127", "+5|1000:123/127", "5|+1000:123/127", "5|1000:+123/127", "5|1000:123/+127",
		"-5|1000:123/127", "5|-1000:123/127", "5|1000:-123/127", "5|1000:123/-127", "5|1000:-127/-123", "-0|1000:123/127", "5|1000:-0/127",
		"0|1000:123/127", "5|0:123/127", "5|1000:0/127", "5|1000:123/0", "101|1000:123/127", "5|2001:123/127", "5|1000:123/2001", "5|1000:2000/2001", "5|1000:2001/2002",
		"5|1000:123/123", "5|1000:127/123", "5|1000:2000/2000", "5|1000:1/1", "5.0|1000:123/127", "5|1e3:123/127", "0x5|1000:123/127", "5|1_000:123/127", "5|1,000:123/127",
		"5\uff5c1000:123/127", "5|1000\uff1a123/127", "\u0665|1000:123/127", "five|1000:123/127",
		"18446744073709551621|1000:123/127", "5|18446744073709552616:123/127", "5|1000:18446744073709551739/127", "5|1000:123/18446744073709551743",
		"5|1000:123/9223372036854775807", "5|1000:123/9223372036854775808", "-9223372036854775808|1000:123/127", "4294967301|1000:123/127", "5|1000:4294967419/4294967423",
		"56:105/42", "2*3", "2@4+3", "2|3,4|2",
		strings.Repeat("5|", 100000), strings.Repeat("/", 100000), strings.Repeat("9", 100000) + "|1000:123/127", "5|1000:123/" + strings.Repeat("0", 100000) + "127",
	} {
		if i, ok := impl.ParseIsland(s); i != (impl.Island{}) || ok {
			t.Errorf("%.40q: %v %v", s, i, ok)
		}
	}
	// A text that is parsed is just the text of what it is parsed to: each byte of it counts.
	for _, base := range []string{"5|1000:123/127", "1|2:3/4"} {
		for k := 0; k <= len(base); k++ {
			for c := range 256 {
				for j := k; j <= len(base); j++ {
					s := base[:k] + string([]byte{byte(c)}) + base[j:]
					i, ok := impl.ParseIsland(s)
					if text, _ := impl.IslandText(i); ok && text != s || !ok && i != (impl.Island{}) {
						t.Fatalf("%q: %v %v", s, i, ok)
					}
				}
			}
		}
	}
}

// Promise 11: no number makes a call panic, in whatever place it is.
func TestHeightCallsNeverPanic(t *testing.T) {
	calm := func(...any) {}
	for _, a := range heightNumbers {
		for _, b := range heightNumbers {
			calm(impl.WholeIslands(a, b))
			for _, c := range heightNumbers {
				for _, d := range heightNumbers {
					n := []int{a, b, c, d}
					for _, m := range measurings() {
						num, den, ok := m.call(n)
						if ok != m.accepts(n) || !ok && (num != 0 || den != 0) {
							t.Fatal(m.name, n, num, den, ok)
						}
					}
					calm(impl.StepsForIsland(a, b, c, d))
					i := impl.Island{Staff: a, Apart: b, First: c, Second: d}
					calm(impl.IsIsland(i))
					calm(impl.TimesIsland(i, a))
					calm(impl.TimesIsland(i, d))
					calm(impl.IslandText(i))
				}
			}
		}
	}
}

// Results are new memory: changing one changes neither another call's result nor another slice of the same one.
func TestIslandsAreNew(t *testing.T) {
	want, _ := impl.WholeIslands(5, 1000)
	spoiled, _ := impl.WholeIslands(5, 1000)
	for k := range spoiled {
		_ = append(spoiled[k], -1, -1, -1, -1)
		if !reflect.DeepEqual(spoiled, want) {
			t.Fatal("islands share memory", spoiled)
		}
	}
	for k := range spoiled[1] {
		spoiled[1][k] = -1
	}
	if !reflect.DeepEqual(spoiled[2:], want[2:]) || !reflect.DeepEqual(spoiled[0], want[0]) {
		t.Error("islands share memory", spoiled)
	}
	if again, ok := impl.WholeIslands(5, 1000); !ok || !reflect.DeepEqual(again, want) {
		t.Error("islands are kept between calls", again)
	}
	i := parsedIsland(t, "5|1000:123/127")
	impl.TimesIsland(i, 2)
	impl.HigherByStep(i)
	if i != (impl.Island{Staff: 5, Apart: 1000, First: 123, Second: 127}) {
		t.Error("the island is modified", i)
	}
}
