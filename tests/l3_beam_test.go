package tests

import (
	"math"
	"reflect"
	"strconv"
	"strings"
	"testing"

	"loop.example/g01351/impl"
)

// beamNumbers are ints at and around every limit of chapter 3, and at the ends of what an int can be.
var beamNumbers = []int{
	math.MinInt, math.MinInt + 1, -1 << 32, -100000, -60, -1, 0, 1, 2, 3, 59, 60, 61, 100, 101, 299, 300, 301,
	999, 1000, 1001, 99999, 100000, 100001, 1 << 31, 1 << 32, 1<<32 + 1, 1 << 62, math.MaxInt - 1, math.MaxInt,
}

// ray is a beam told by where it would be on lines without sides: x and y go up and down on them, all 2 Wide and 2 High steps again.
type ray struct {
	t      impl.Table
	b      impl.Beam
	px, py int
	end    int // behind how many steps it is at a corner, -1 if it never is
}

func rayOf(t impl.Table, b impl.Beam) ray {
	r := ray{t: t, b: b, px: b.X, py: b.Y, end: -1}
	if !b.Right {
		r.px = 2*t.Wide - b.X
	}
	if !b.Up {
		r.py = 2*t.High - b.Y
	}
	for n := 1; n <= 2*t.Wide*t.High; n++ {
		if (r.px+n)%t.Wide == 0 && (r.py+n)%t.High == 0 {
			r.end = n
			break
		}
	}
	return r
}

// folded is where something is between 0 and most that went to a place, and whether it goes on to greater ones.
func folded(place int, most int) (int, bool) {
	place = (place%(2*most) + 2*most) % (2 * most)
	if place < most {
		return place, true
	}
	return 2*most - place, false
}

func (r ray) made(steps int) int {
	if r.end >= 0 && steps > r.end {
		return r.end
	}
	return steps
}

func (r ray) after(steps int) impl.Beam {
	n := r.made(steps)
	x, right := folded(r.px+n, r.t.Wide)
	y, up := folded(r.py+n, r.t.High)
	if n == r.end { // as it came
		_, right = folded(r.px+n-1, r.t.Wide)
		_, up = folded(r.py+n-1, r.t.High)
	}
	return impl.Beam{X: x, Y: y, Right: right, Up: up}
}

func (r ray) bounces(steps int) string {
	var sides strings.Builder
	for n := 1; n <= r.made(steps); n++ {
		if n == r.end {
			break
		}
		x, y := (r.px+n)%(2*r.t.Wide), (r.py+n)%(2*r.t.High)
		for _, side := range []struct {
			there bool
			name  string
		}{{x == r.t.Wide, "r"}, {x == 0, "l"}, {y == r.t.High, "u"}, {y == 0, "d"}} {
			if side.there {
				sides.WriteString(side.name)
			}
		}
	}
	return sides.String()
}

// period is how many steps the whole way takes: to the corner, or until it goes on as at first.
func (r ray) period() int {
	if r.end >= 0 {
		return r.end
	}
	for n := 1; ; n++ {
		if n%(2*r.t.Wide) == 0 && n%(2*r.t.High) == 0 {
			return n
		}
	}
}

// beamsOn calls check for all beams on a table.
func beamsOn(u impl.Table, check func(u impl.Table, b impl.Beam)) {
	for x := 0; x <= u.Wide; x++ {
		for y := 0; y <= u.High; y++ {
			for ways := range 4 {
				check(u, impl.Beam{X: x, Y: y, Right: ways&1 == 0, Up: ways&2 == 0})
			}
		}
	}
}

// sampleBeams calls check for all beams on all small tables, and for some on great and narrow ones.
func sampleBeams(check func(u impl.Table, b impl.Beam)) {
	for wide := 1; wide <= 6; wide++ {
		for high := 1; high <= 6; high++ {
			beamsOn(impl.Table{Wide: wide, High: high}, check)
		}
	}
	for _, size := range [][2]int{{60, 59}, {59, 60}, {60, 60}, {60, 1}, {1, 60}, {48, 36}, {60, 58}, {7, 60}, {2, 59}, {60, 45}, {12, 8}} {
		u := impl.Table{Wide: size[0], High: size[1]}
		for ways := range 4 {
			for _, at := range [][2]int{{0, 0}, {u.Wide, u.High}, {u.Wide, 0}, {0, u.High}, {1, 0}, {0, 1}, {u.Wide - 1, u.High}, {u.Wide, u.High / 2}, {u.Wide / 2, u.High / 3}, {u.Wide / 3, u.High - 1}} {
				check(u, impl.Beam{X: at[0], Y: at[1], Right: ways&1 == 0, Up: ways&2 == 0})
			}
		}
	}
}

// noBeams calls check for tables and beams that are none on them: a number of the table is out of its limits, or the place is off it.
func noBeams(check func(u impl.Table, b impl.Beam)) {
	for _, n := range beamNumbers {
		if n < 1 || n > 60 {
			check(impl.Table{Wide: n, High: 2}, impl.Beam{X: 1, Y: 1, Right: true, Up: true})
			check(impl.Table{Wide: 3, High: n}, impl.Beam{})
			check(impl.Table{Wide: n, High: n}, impl.Beam{X: n, Y: n})
			check(impl.Table{Wide: n, High: 2}, impl.Beam{X: n, Y: 2, Right: true})
		}
		if n < 0 || n > 3 {
			check(impl.Table{Wide: 3, High: 2}, impl.Beam{X: n, Y: 1, Right: true, Up: true})
			check(impl.Table{Wide: 3, High: 2}, impl.Beam{X: n, Y: n})
		}
		if n < 0 || n > 2 {
			check(impl.Table{Wide: 3, High: 2}, impl.Beam{X: 1, Y: n, Right: true})
		}
		if n < 0 || n > 60 {
			check(impl.Table{Wide: 60, High: 60}, impl.Beam{X: n, Y: 60, Up: true})
			check(impl.Table{Wide: 60, High: 60}, impl.Beam{X: 60, Y: n})
		}
	}
	check(impl.Table{}, impl.Beam{})
	check(impl.Table{Wide: 3, High: 2}, impl.Beam{X: 4, Y: 2})
	check(impl.Table{Wide: 3, High: 2}, impl.Beam{X: 2, Y: 3})
}

func TestBeamExample(t *testing.T) {
	u, ok := impl.ParseTable("3x2")
	if !ok || u != (impl.Table{Wide: 3, High: 2}) {
		t.Fatal("table", u, ok)
	}
	b := impl.Beam{X: 0, Y: 0, Right: true, Up: true}
	if got, ok := impl.PlacesOfBeam(u, b, 6); !ok || !reflect.DeepEqual(got, [][]int{{0, 0}, {1, 1}, {2, 2}, {3, 1}, {2, 0}, {1, 1}, {0, 2}}) {
		t.Error("places", got, ok)
	}
	if n, ok := impl.StepsToCorner(u, b); n != 6 || !ok {
		t.Error("steps", n, ok)
	}
	if s, ok := impl.BouncesWithin(u, b, 6); s != "urd" || !ok {
		t.Error("bounces", s, ok)
	}
	if x, y, ok := impl.MainBounces(u); x != 1 || y != 2 || !ok {
		t.Error("main bounces", x, y, ok)
	}
	if n, ok := impl.CountPlaces(u, b); n != 6 || !ok {
		t.Error("count of places", n, ok)
	}
	if n, ok := impl.CountCrossings(u, b); n != 1 || !ok {
		t.Error("crossings", n, ok)
	}
	if l, ok := impl.TablesFor(3); !ok || !reflect.DeepEqual(l, []impl.Table{{Wide: 1, High: 4}, {Wide: 2, High: 3}}) {
		t.Error("tables", l, ok)
	}
	c := impl.Beam{X: 1, Y: 0, Right: true, Up: true}
	if n, ok := impl.StepsToCorner(u, c); n != 2 || !ok {
		t.Error("steps from 1, 0", n, ok)
	}
	if x, y, ok := impl.CornerOf(u, c); x != 3 || y != 2 || !ok {
		t.Error("corner from 1, 0", x, y, ok)
	}
}

func TestIsTableAndIsBeam(t *testing.T) {
	for _, wide := range beamNumbers {
		for _, high := range beamNumbers {
			u := impl.Table{Wide: wide, High: high}
			want := 1 <= wide && wide <= 60 && 1 <= high && high <= 60
			if impl.IsTable(u) != want {
				t.Error(u, "is a table:", !want)
			}
			for _, x := range beamNumbers {
				for _, y := range beamNumbers {
					on := want && 0 <= x && x <= wide && 0 <= y && y <= high
					for ways := range 4 {
						b := impl.Beam{X: x, Y: y, Right: ways&1 == 0, Up: ways&2 == 0}
						if impl.IsBeam(u, b) != on {
							t.Fatal(b, "is a beam on", u, !on)
						}
					}
				}
			}
		}
	}
}

// Promise 3: behind each step a beam is where it would be on lines without sides, folded to the table, until it ends.
func TestBeamsStepByStep(t *testing.T) {
	sampleBeams(func(u impl.Table, b impl.Beam) {
		r := rayOf(u, b)
		far := []int{r.period() - 1, r.period(), r.period() + 1, 2*r.period() + 3, 99999, 100000}
		for n := range 40 {
			far = append(far, n)
		}
		for _, n := range far {
			if got, ok := impl.BeamAfter(u, b, n); got != r.after(n) || !ok {
				t.Fatal(u, b, n, got, ok, "instead of", r.after(n))
			}
		}
		for _, n := range beamNumbers {
			if got, ok := impl.BeamAfter(u, b, n); (n < 0 || n > 100000) && (got != impl.Beam{} || ok) {
				t.Fatal(u, b, n, got, ok)
			}
		}
	})
}

// A beam that begins where it would leave the table is turned at once, and one that ended is as it came.
func TestBeamsAtSidesAndCorners(t *testing.T) {
	u := impl.Table{Wide: 3, High: 2}
	for _, c := range []struct {
		b     impl.Beam
		steps int
		want  impl.Beam
	}{
		{impl.Beam{X: 0, Y: 1, Right: false, Up: true}, 0, impl.Beam{X: 0, Y: 1, Right: true, Up: true}},
		{impl.Beam{X: 0, Y: 1, Right: false, Up: true}, 1, impl.Beam{X: 1, Y: 2, Right: true, Up: false}},
		{impl.Beam{X: 3, Y: 1, Right: true, Up: false}, 0, impl.Beam{X: 3, Y: 1, Right: false, Up: false}},
		{impl.Beam{X: 2, Y: 2, Right: true, Up: true}, 0, impl.Beam{X: 2, Y: 2, Right: true, Up: false}},
		{impl.Beam{X: 2, Y: 0, Right: false, Up: false}, 0, impl.Beam{X: 2, Y: 0, Right: false, Up: true}},
		{impl.Beam{X: 0, Y: 0, Right: false, Up: false}, 0, impl.Beam{X: 0, Y: 0, Right: true, Up: true}},
		{impl.Beam{X: 0, Y: 0, Right: true, Up: false}, 1, impl.Beam{X: 1, Y: 1, Right: true, Up: true}},
		{impl.Beam{X: 3, Y: 2, Right: true, Up: true}, 0, impl.Beam{X: 3, Y: 2, Right: false, Up: false}},
		{impl.Beam{X: 0, Y: 2, Right: false, Up: true}, 0, impl.Beam{X: 0, Y: 2, Right: true, Up: false}},
		{impl.Beam{X: 3, Y: 0, Right: false, Up: false}, 0, impl.Beam{X: 3, Y: 0, Right: false, Up: true}},
		{impl.Beam{X: 1, Y: 1, Right: false, Up: false}, 0, impl.Beam{X: 1, Y: 1, Right: false, Up: false}},
		{impl.Beam{X: 1, Y: 1, Right: false, Up: false}, 1, impl.Beam{X: 0, Y: 0, Right: false, Up: false}},
		{impl.Beam{X: 1, Y: 1, Right: false, Up: false}, 2, impl.Beam{X: 0, Y: 0, Right: false, Up: false}},
		{impl.Beam{X: 1, Y: 0, Right: true, Up: true}, 2, impl.Beam{X: 3, Y: 2, Right: true, Up: true}},
		{impl.Beam{X: 0, Y: 0, Right: true, Up: true}, 100000, impl.Beam{X: 0, Y: 2, Right: false, Up: true}},
		{impl.Beam{X: 0, Y: 0, Right: true, Up: true}, 2, impl.Beam{X: 2, Y: 2, Right: true, Up: false}},
		{impl.Beam{X: 0, Y: 0, Right: true, Up: true}, 3, impl.Beam{X: 3, Y: 1, Right: false, Up: false}},
		{impl.Beam{X: 0, Y: 0, Right: true, Up: true}, 4, impl.Beam{X: 2, Y: 0, Right: false, Up: true}},
	} {
		if got, ok := impl.BeamAfter(u, c.b, c.steps); got != c.want || !ok {
			t.Error(c.b, c.steps, got, ok)
		}
	}
	for ways := range 4 {
		for x := range 2 {
			for y := range 2 {
				b := impl.Beam{X: x, Y: y, Right: ways&1 == 0, Up: ways&2 == 0}
				one := impl.Table{Wide: 1, High: 1}
				if n, ok := impl.StepsToCorner(one, b); n != 1 || !ok {
					t.Error(b, "on 1x1", n, ok)
				}
				if cx, cy, ok := impl.CornerOf(one, b); cx != 1-x || cy != 1-y || !ok {
					t.Error(b, "on 1x1", cx, cy, ok)
				}
				if s, ok := impl.BouncesWithin(one, b, 1000); s != "" || !ok {
					t.Error(b, "on 1x1", s, ok)
				}
			}
		}
	}
}

// Promise 3: places are one after the other, with the corner as the last one.
func TestPlacesOfBeams(t *testing.T) {
	sampleBeams(func(u impl.Table, b impl.Beam) {
		r := rayOf(u, b)
		for _, steps := range []int{0, 1, 2, 7, r.end - 1, r.end, r.end + 1, 299, 300} {
			if steps < 0 || steps > 300 {
				continue
			}
			var want [][]int
			for n := 0; n <= r.made(steps); n++ {
				want = append(want, []int{r.after(n).X, r.after(n).Y})
			}
			if got, ok := impl.PlacesOfBeam(u, b, steps); !ok || !reflect.DeepEqual(got, want) {
				t.Fatal(u, b, steps, got, ok)
			}
		}
		for _, steps := range beamNumbers {
			if steps >= 0 && steps <= 300 {
				continue
			}
			if got, ok := impl.PlacesOfBeam(u, b, steps); len(got) != 0 || ok {
				t.Fatal(u, b, steps, got, ok)
			}
		}
	})
	if got, _ := impl.PlacesOfBeam(impl.Table{Wide: 60, High: 59}, impl.Beam{}, 300); len(got) != 301 {
		t.Error("places of 300 steps", len(got))
	}
}

// Promise 3: beams end at the told corners, behind the told bounces; those that never do have a period.
func TestEndsOfBeams(t *testing.T) {
	sampleBeams(func(u impl.Table, b impl.Beam) {
		r := rayOf(u, b)
		steps, stepsOk := impl.StepsToCorner(u, b)
		x, y, cornerOk := impl.CornerOf(u, b)
		bounces, bouncesOk := impl.BouncesToCorner(u, b)
		period, periodOk := impl.PeriodOfBeam(u, b)
		if r.end < 0 {
			if steps != 0 || x != 0 || y != 0 || bounces != 0 || stepsOk || cornerOk || bouncesOk {
				t.Fatal(u, b, "never ends", steps, x, y, bounces)
			}
			if period != r.period() || !periodOk {
				t.Fatal(u, b, "period", period, periodOk)
			}
			return
		}
		end := r.after(r.end)
		if steps != r.end || x != end.X || y != end.Y || !stepsOk || !cornerOk {
			t.Fatal(u, b, steps, x, y, stepsOk, cornerOk)
		}
		if bounces != len(r.bounces(r.end)) || !bouncesOk {
			t.Fatal(u, b, "bounces", bounces, bouncesOk)
		}
		if period != 0 || periodOk {
			t.Fatal(u, b, "has a period", period, periodOk)
		}
	})
}

func TestBeamsThatNeverEnd(t *testing.T) {
	u := impl.Table{Wide: 2, High: 2}
	b := impl.Beam{X: 1, Y: 0, Right: true, Up: true}
	if n, ok := impl.PeriodOfBeam(u, b); n != 4 || !ok {
		t.Error("period", n, ok)
	}
	if s, ok := impl.BouncesWithin(u, b, 1000); s != strings.Repeat("ruld", 250) || !ok {
		t.Error("bounces", len(s), ok)
	}
	if n, ok := impl.CountPlaces(u, b); n != 4 || !ok {
		t.Error("places", n, ok)
	}
	// It begins turned: what is there again is the beam as it went on.
	if n, ok := impl.PeriodOfBeam(u, impl.Beam{X: 1, Y: 0, Right: true, Up: false}); n != 4 || !ok {
		t.Error("period of one that is turned", n, ok)
	}
	// It comes back on its own way in the other direction, which is no end of the period.
	if n, ok := impl.PeriodOfBeam(impl.Table{Wide: 60, High: 58}, impl.Beam{X: 1, Y: 0}); n != 3480 || !ok {
		t.Error("period on 60x58", n, ok)
	}
	if n, ok := impl.PeriodOfBeam(impl.Table{Wide: 60, High: 58}, impl.Beam{X: 1, Y: 1}); n != 0 || ok {
		t.Error("a beam to a corner", n, ok)
	}
	if n, ok := impl.StepsToCorner(impl.Table{Wide: 60, High: 59}, impl.Beam{}); n != 3540 || !ok {
		t.Error("the longest way between corners", n, ok)
	}
}

// Promise 3: bounces are told in their order, as the places tell them.
func TestBouncesWithin(t *testing.T) {
	sampleBeams(func(u impl.Table, b impl.Beam) {
		r := rayOf(u, b)
		for _, steps := range []int{0, 1, 2, 3, 4, 5, 6, 7, 30, r.period() - 1, r.period(), r.period() + 1, 999, 1000} {
			if steps > 1000 {
				continue
			}
			if got, ok := impl.BouncesWithin(u, b, steps); got != r.bounces(steps) || !ok {
				t.Fatal(u, b, steps, got, ok, "instead of", r.bounces(steps))
			}
		}
		for _, steps := range beamNumbers {
			if steps >= 0 && steps <= 1000 {
				continue
			}
			if got, ok := impl.BouncesWithin(u, b, steps); got != "" || ok {
				t.Fatal(u, b, steps, got, ok)
			}
		}
	})
}

// Promise 3: a beam passes the places at which it is behind some steps, and counts are of these.
func TestPassesOfBeams(t *testing.T) {
	sampleBeams(func(u impl.Table, b impl.Beam) {
		r := rayOf(u, b)
		first, times := map[[2]int]int{}, map[[2]int]int{}
		for n := 0; n <= r.period(); n++ {
			if n == r.period() && r.end < 0 {
				break
			}
			at := [2]int{r.after(n).X, r.after(n).Y}
			if times[at] == 0 {
				first[at] = n
			}
			times[at]++
		}
		for x := 0; x <= u.Wide; x++ {
			for y := 0; y <= u.High; y++ {
				at := [2]int{x, y}
				if u.Wide*u.High > 100 && (x+2*y)%61 > 1 {
					continue
				}
				if n, ok := impl.FirstPass(u, b, x, y); n != first[at] || ok != (times[at] > 0) {
					t.Fatal(u, b, at, n, ok)
				}
				if passes, ok := impl.DoesPass(u, b, x, y); passes != (times[at] > 0) || !ok {
					t.Fatal(u, b, at, passes, ok)
				}
			}
		}
		if n, ok := impl.CountPlaces(u, b); n != len(times) || !ok {
			t.Fatal(u, b, "places", n, ok)
		}
		crossings := 0
		for at, n := range times {
			if n > 1 && at != [2]int{b.X, b.Y} && at[0]%u.Wide != 0 && at[1]%u.High != 0 {
				crossings++
			}
		}
		n, ok := impl.CountCrossings(u, b)
		if r.end < 0 && (n != 0 || ok) || r.end >= 0 && (n != crossings || !ok) {
			t.Fatal(u, b, "crossings", n, ok)
		}
	})
}

func TestPassesOffTheTable(t *testing.T) {
	u := impl.Table{Wide: 3, High: 2}
	b := impl.Beam{X: 0, Y: 0, Right: true, Up: true}
	for _, x := range beamNumbers {
		for _, y := range beamNumbers {
			if x >= 0 && x <= 3 && y >= 0 && y <= 2 {
				continue
			}
			if n, ok := impl.FirstPass(u, b, x, y); n != 0 || ok {
				t.Fatal(x, y, n, ok)
			}
			if passes, ok := impl.DoesPass(u, b, x, y); passes || ok {
				t.Fatal(x, y, passes, ok)
			}
		}
	}
	for _, c := range []struct{ x, y, steps int }{{0, 0, 0}, {1, 1, 1}, {2, 2, 2}, {3, 1, 3}, {2, 0, 4}, {0, 2, 6}} {
		if n, ok := impl.FirstPass(u, b, c.x, c.y); n != c.steps || !ok {
			t.Error(c, n, ok)
		}
	}
	// It ended at the corner before it could come to this one.
	if n, ok := impl.FirstPass(u, b, 3, 2); n != 0 || ok {
		t.Error(n, ok)
	}
}

// A beam crosses its first place without a crossing there.
func TestCrossingsLeaveOutTheFirstPlace(t *testing.T) {
	u := impl.Table{Wide: 3, High: 2}
	b := impl.Beam{X: 1, Y: 1, Right: true, Up: true}
	if got, ok := impl.PlacesOfBeam(u, b, 300); !ok || !reflect.DeepEqual(got, [][]int{{1, 1}, {2, 2}, {3, 1}, {2, 0}, {1, 1}, {0, 2}}) {
		t.Error("places", got, ok)
	}
	if n, ok := impl.CountCrossings(u, b); n != 0 || !ok {
		t.Error("crossings", n, ok)
	}
	if n, ok := impl.CountPlaces(u, b); n != 5 || !ok {
		t.Error("places", n, ok)
	}
	// A beam from corner to corner crosses itself at half of what is left between the bounces.
	if n, ok := impl.CountCrossings(impl.Table{Wide: 60, High: 59}, impl.Beam{}); n != 58*59/2 || !ok {
		t.Error("crossings on 60x59", n, ok)
	}
}

// Promise 3: the beam from 0, 0 has the told bounces and ends at the told corner, on every table.
func TestMainBeams(t *testing.T) {
	for wide := 1; wide <= 60; wide++ {
		for high := 1; high <= 60; high++ {
			u := impl.Table{Wide: wide, High: high}
			r := rayOf(u, impl.Beam{Right: true, Up: true})
			sides := r.bounces(r.end)
			ofY := strings.Count(sides, "u") + strings.Count(sides, "d")
			if x, y, ok := impl.MainBounces(u); x != len(sides)-ofY || y != ofY || !ok {
				t.Fatal(u, x, y, ok)
			}
			end := r.after(r.end)
			if x, y, ok := impl.MainCorner(u); x != end.X || y != end.Y || !ok {
				t.Fatal(u, x, y, ok)
			}
		}
	}
	noBeams(func(u impl.Table, b impl.Beam) {
		if impl.IsTable(u) {
			return
		}
		failsWithZeros(t, u, func() (int, int, bool) { return impl.MainBounces(u) })
		failsWithZeros(t, u, func() (int, int, bool) { return impl.MainCorner(u) })
	})
}

func TestTablesFor(t *testing.T) {
	for bounces := 0; bounces <= 100; bounces++ {
		var want []impl.Table
		for wide := 1; wide <= 60; wide++ {
			for high := wide; high <= 60; high++ {
				divided := false
				for by := 2; by <= wide; by++ {
					divided = divided || wide%by == 0 && high%by == 0
				}
				u := impl.Table{Wide: wide, High: high}
				x, y, _ := impl.MainBounces(u)
				if !divided && x+y == bounces {
					want = append(want, u)
				}
			}
		}
		if got, ok := impl.TablesFor(bounces); !ok || !reflect.DeepEqual(got, want) {
			t.Fatal(bounces, got, ok, "instead of", want)
		}
	}
	for bounces, want := range map[int][]impl.Table{
		0:   {{Wide: 1, High: 1}},
		1:   {{Wide: 1, High: 2}},
		100: {{Wide: 43, High: 59}, {Wide: 47, High: 55}, {Wide: 49, High: 53}},
	} {
		if got, ok := impl.TablesFor(bounces); !ok || !reflect.DeepEqual(got, want) {
			t.Error(bounces, got, ok)
		}
	}
	for _, bounces := range beamNumbers {
		if bounces >= 0 && bounces <= 100 {
			continue
		}
		if got, ok := impl.TablesFor(bounces); len(got) != 0 || ok {
			t.Error(bounces, got, ok)
		}
	}
}

// The beam that goes back comes by the same places; it is told turned in x and in y, wherever it is.
func TestBackBeams(t *testing.T) {
	sampleBeams(func(u impl.Table, b impl.Beam) {
		back, ok := impl.BackBeam(u, b)
		if !ok || back != (impl.Beam{X: b.X, Y: b.Y, Right: !b.Right, Up: !b.Up}) {
			t.Fatal(u, b, back, ok)
		}
		for _, steps := range []int{1, 2, 7, 60} {
			there, _ := impl.PlacesOfBeam(u, b, steps)
			last, _ := impl.BeamAfter(u, b, steps)
			back, _ := impl.BackBeam(u, last)
			again, _ := impl.PlacesOfBeam(u, back, len(there)-1)
			for k := range again {
				if !reflect.DeepEqual(again[k], there[len(there)-1-k]) {
					t.Fatal(u, b, steps, there, again)
				}
			}
			if len(again) != len(there) {
				t.Fatal(u, b, steps, there, again)
			}
		}
	})
}

func TestUnfoldedPlaces(t *testing.T) {
	sampleBeams(func(u impl.Table, b impl.Beam) {
		r := rayOf(u, b)
		for _, steps := range []int{0, 1, 2, 5, 61, 3540, 99999, 100000} {
			wantX, wantY := b.X+steps, b.Y+steps
			if !b.Right {
				wantX = b.X - steps
			}
			if !b.Up {
				wantY = b.Y - steps
			}
			x, y, ok := impl.UnfoldedPlace(u, b, steps)
			if x != wantX || y != wantY || !ok {
				t.Fatal(u, b, steps, x, y, ok)
			}
			// Folded to the table it is where the beam is, if it goes on so long.
			at := r.after(steps)
			inX, _ := folded(x, u.Wide)
			inY, _ := folded(y, u.High)
			if r.made(steps) == steps && (inX != at.X || inY != at.Y) {
				t.Fatal(u, b, steps, x, y, at)
			}
		}
		for _, steps := range beamNumbers {
			if steps < 0 || steps > 100000 {
				failsWithZeros(t, steps, func() (int, int, bool) { return impl.UnfoldedPlace(u, b, steps) })
			}
		}
	})
	if x, y, ok := impl.UnfoldedPlace(impl.Table{Wide: 3, High: 2}, impl.Beam{X: 0, Y: 2, Right: false, Up: true}, 100000); x != -100000 || y != 100002 || !ok {
		t.Error(x, y, ok)
	}
}

// Beams off the table, and those on what is no table, make every call fail with zeros.
func TestNoBeams(t *testing.T) {
	noBeams(func(u impl.Table, b impl.Beam) {
		if impl.IsBeam(u, b) {
			t.Error("a beam", u, b)
		}
		for _, steps := range []int{0, 1, 6, 300, math.MaxInt} {
			if got, ok := impl.BeamAfter(u, b, steps); got != (impl.Beam{}) || ok {
				t.Error("BeamAfter", u, b, got, ok)
			}
			if got, ok := impl.PlacesOfBeam(u, b, steps); len(got) != 0 || ok {
				t.Error("PlacesOfBeam", u, b, got, ok)
			}
			if got, ok := impl.BouncesWithin(u, b, steps); got != "" || ok {
				t.Error("BouncesWithin", u, b, got, ok)
			}
			failsWithZeros(t, u, func() (int, int, bool) { return impl.UnfoldedPlace(u, b, steps) })
		}
		for what, call := range map[string]func(impl.Table, impl.Beam) (int, bool){
			"StepsToCorner": impl.StepsToCorner, "BouncesToCorner": impl.BouncesToCorner, "PeriodOfBeam": impl.PeriodOfBeam,
			"CountPlaces": impl.CountPlaces, "CountCrossings": impl.CountCrossings,
		} {
			if n, ok := call(u, b); n != 0 || ok {
				t.Error(what, u, b, n, ok)
			}
		}
		failsWithZeros(t, u, func() (int, int, bool) { return impl.CornerOf(u, b) })
		if n, ok := impl.FirstPass(u, b, 0, 0); n != 0 || ok {
			t.Error("FirstPass", u, b, n, ok)
		}
		if passes, ok := impl.DoesPass(u, b, 0, 0); passes || ok {
			t.Error("DoesPass", u, b, passes, ok)
		}
		if n, ok := impl.FirstPass(u, b, b.X, b.Y); n != 0 || ok {
			t.Error("FirstPass", u, b, n, ok)
		}
		if passes, ok := impl.DoesPass(u, b, b.X, b.Y); passes || ok {
			t.Error("DoesPass", u, b, passes, ok)
		}
		if back, ok := impl.BackBeam(u, b); back != (impl.Beam{}) || ok {
			t.Error("BackBeam", u, b, back, ok)
		}
	})
}

func TestTableTexts(t *testing.T) {
	for wide := 1; wide <= 60; wide++ {
		for high := 1; high <= 60; high++ {
			u := impl.Table{Wide: wide, High: high}
			want := strconv.Itoa(wide) + "x" + strconv.Itoa(high)
			if text, ok := impl.TableText(u); text != want || !ok {
				t.Fatal(u, text, ok)
			}
			if back, ok := impl.ParseTable(want); back != u || !ok {
				t.Fatal(want, back, ok)
			}
		}
	}
	noBeams(func(u impl.Table, b impl.Beam) {
		if impl.IsTable(u) {
			return
		}
		if text, ok := impl.TableText(u); text != "" || ok {
			t.Error(u, text, ok)
		}
		if back, ok := impl.ParseTable(strconv.Itoa(u.Wide) + "x" + strconv.Itoa(u.High)); back != (impl.Table{}) || ok {
			t.Error(u, back, ok)
		}
	})
}

// Texts that are almost TableTexts are none.
func TestNoTableTexts(t *testing.T) {
	for _, s := range []string{
		"", "x", "3", "3x", "x2", "3xx2", "3x2x", "x3x2", "3x2x1", "3 x2", "3x 2", " 3x2", "3x2 ", "3x2\n", "3x2\x00", "+3x2", "3x+2", "-3x2", "3x-2",
		"03x2", "3x02", "00x2", "0x2", "3x0", "0x0", "61x2", "3x61", "61x61", "3X2", "3*2", "3,2", "3:2", "3/2", "3.0x2", "3e0x2", "1_0x2", "0x3x2", "0b1x2",
		"9223372036854775807x1", "9223372036854775808x1", "18446744073709551619x2", "3x18446744073709551618", "-9223372036854775808x1", "4294967299x2",
		"\u0663x2", "3\u00d72", "\u0663x\u0662", "3x2\xff", strings.Repeat("1x", 100000), strings.Repeat("9", 100000) + "x1",
	} {
		if u, ok := impl.ParseTable(s); u != (impl.Table{}) || ok {
			t.Errorf("%.40q: %v %v", s, u, ok)
		}
	}
	// A text that is parsed is just the text of what it is parsed to: each byte of it counts.
	const base = "6x60"
	for i := 0; i <= len(base); i++ {
		for b := range 256 {
			for j := i; j <= len(base); j++ {
				s := base[:i] + string([]byte{byte(b)}) + base[j:]
				u, ok := impl.ParseTable(s)
				if text, _ := impl.TableText(u); ok && text != s || !ok && u != (impl.Table{}) {
					t.Fatalf("%q: %v %v", s, u, ok)
				}
			}
		}
	}
}

// Promise 11: no number makes a call panic, in whatever place it is.
func TestBeamCallsNeverPanic(t *testing.T) {
	numbers := []int{math.MinInt, -1, 0, 1, 2, 60, 61, 300, 1000, 100000, 100001, math.MaxInt}
	for _, a := range numbers {
		impl.TablesFor(a)
		for _, b := range numbers {
			u := impl.Table{Wide: a, High: b}
			impl.MainBounces(u)
			impl.MainCorner(u)
			for _, c := range numbers {
				for _, d := range numbers {
					beam := impl.Beam{X: c, Y: d, Right: a < c, Up: b < d}
					impl.StepsToCorner(u, beam)
					impl.CornerOf(u, beam)
					impl.BouncesToCorner(u, beam)
					impl.PeriodOfBeam(u, beam)
					impl.CountPlaces(u, beam)
					impl.CountCrossings(u, beam)
					impl.BackBeam(u, beam)
					for _, e := range numbers {
						impl.BeamAfter(u, beam, e)
						impl.PlacesOfBeam(u, beam, e)
						impl.BouncesWithin(u, beam, e)
						impl.UnfoldedPlace(u, beam, e)
						impl.FirstPass(u, beam, e, a)
						impl.FirstPass(u, beam, d, e)
						impl.DoesPass(u, beam, e, a)
						impl.DoesPass(u, beam, d, e)
					}
				}
			}
		}
	}
}

// Results are new memory: changing one changes neither another call's result nor another slice of the same one.
func TestBeamResultsAreNew(t *testing.T) {
	u := impl.Table{Wide: 3, High: 2}
	b := impl.Beam{X: 0, Y: 0, Right: true, Up: true}
	want, _ := impl.PlacesOfBeam(u, b, 6)
	spoiled, _ := impl.PlacesOfBeam(u, b, 6)
	for k := range spoiled {
		_ = append(spoiled[k], -1, -1, -1)
		if !reflect.DeepEqual(spoiled, want) {
			t.Fatal("places share memory", spoiled)
		}
	}
	spoiled[1][0], spoiled[1][1] = -1, -1 // the same place as behind 5 steps
	if !reflect.DeepEqual(spoiled[5], want[5]) {
		t.Error("places share memory", spoiled)
	}
	if again, _ := impl.PlacesOfBeam(u, b, 6); !reflect.DeepEqual(again, want) {
		t.Error("places are kept between calls", again)
	}
	tables, _ := impl.TablesFor(3)
	tables[0] = impl.Table{}
	if again, _ := impl.TablesFor(3); again[0] != (impl.Table{Wide: 1, High: 4}) {
		t.Error("tables are kept between calls", again)
	}
}
