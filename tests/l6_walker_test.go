package tests

import (
	"math"
	"math/big"
	"reflect"
	"strconv"
	"strings"
	"testing"

	"loop.example/g01351/impl"
)

// walkerNumbers are ints at and around every limit of chapter 6, and at the ends of what an int can be.
var walkerNumbers = []int{
	math.MinInt, math.MinInt + 1, -1 << 32, -501, -500, -51, -50, -49, -1, 0, 1, 2, 3, 6, 49, 50, 51, 59, 60, 61,
	199, 200, 201, 499, 500, 501, 1 << 31, 1 << 32, 1<<32 + 1, 1 << 62, math.MaxInt - 1, math.MaxInt,
}

// parsedWalker is the walker with a text.
func parsedWalker(t *testing.T, s string) impl.Walker {
	t.Helper()
	w, ok := impl.ParseWalker(s)
	if !ok {
		t.Fatal(s, "is a walker")
	}
	return w
}

// walkersOf are walkers of a lamp: the lowest and the highest ones, near and far, that stand, go away and come.
func walkersOf(lamp int) []impl.Walker {
	var all []impl.Walker
	for _, high := range []int{1, 2, lamp / 2, lamp - 1} {
		for _, place := range []int{0, 1, 2, 5, 60, 499, 500} {
			for _, speed := range []int{-50, -49, -5, -2, -1, 0, 1, 3, 49, 50} {
				if high >= 1 && high < lamp {
					all = append(all, impl.Walker{High: high, Place: place, Speed: speed})
				}
			}
		}
	}
	return all
}

// sampleWalkers calls check for lamps and walkers of them.
func sampleWalkers(check func(lamp int, w impl.Walker)) {
	for _, lamp := range []int{2, 3, 6, 7, 100, 199, 200} {
		for _, w := range walkersOf(lamp) {
			check(lamp, w)
		}
	}
}

// noWalkers calls check for lamps and walkers that are none of them: a number is out of its limits, or the walker is not lower.
func noWalkers(check func(lamp int, w impl.Walker)) {
	for _, n := range walkerNumbers {
		if n < 2 || n > 200 {
			check(n, impl.Walker{High: 1, Place: 4, Speed: -3})
			check(n, impl.Walker{High: n - 1, Place: 4, Speed: 3})
		}
		if n < 1 || n > 5 {
			check(6, impl.Walker{High: n, Place: 4, Speed: -3})
		}
		if n < 1 || n > 199 {
			check(200, impl.Walker{High: n, Place: 4, Speed: 0})
		}
		if n < 0 || n > 500 {
			check(6, impl.Walker{High: 2, Place: n, Speed: -3})
			check(6, impl.Walker{High: 2, Place: n, Speed: 0})
		}
		if n < -50 || n > 50 {
			check(6, impl.Walker{High: 2, Place: 4, Speed: n})
			check(6, impl.Walker{High: 2, Place: 0, Speed: n})
		}
		if n != 0 && n != 1 {
			check(n, impl.Walker{High: n, Place: n, Speed: n})
		}
	}
	check(2, impl.Walker{High: 2, Place: 4, Speed: -3}) // as high as its lamp
	check(6, impl.Walker{High: 6, Place: 4, Speed: -3})
	check(200, impl.Walker{High: 200, Place: 0, Speed: 0})
	check(0, impl.Walker{})
	check(6, impl.Walker{})
}

// placeOf is where a walker would be at a minute, which may be any fraction.
func placeOf(w impl.Walker, minute *big.Rat) *big.Rat {
	return add(rat(w.Place, 1), mul(rat(w.Speed, 1), minute))
}

// tipOf is where the line from the lamp by the top of a walker comes to the ground: it falls by what the lamp is higher for each place up to the walker, until nothing is left.
func tipOf(lamp int, w impl.Walker, minute *big.Rat) *big.Rat {
	place := placeOf(w, minute)
	return add(place, mul(place, rat(w.High, lamp-w.High)))
}

// lastMinute is the last minute at which a walker is at a place of at least 0, or false if it is so for ever.
func lastMinute(w impl.Walker) (*big.Rat, bool) {
	if w.Speed >= 0 {
		return nil, false
	}
	return rat(w.Place, -w.Speed), true
}

func TestWalkerExample(t *testing.T) {
	w, stander := parsedWalker(t, "2@4+3"), parsedWalker(t, "3@5+0")
	if w != (impl.Walker{High: 2, Place: 4, Speed: 3}) || stander != (impl.Walker{High: 3, Place: 5}) {
		t.Fatal(w, stander)
	}
	if place, ok := impl.PlaceAt(6, w, 1); place != 7 || !ok {
		t.Error("place", place, ok)
	}
	for _, c := range []struct {
		what     string
		num, den int
		call     callOfTwo
	}{
		{"tip", 21, 2, func() (int, int, bool) { return impl.TipAt(6, w, 1) }},
		{"shadow", 7, 2, func() (int, int, bool) { return impl.ShadowAt(6, w, 1) }},
		{"tip speed", 9, 2, func() (int, int, bool) { return impl.TipSpeed(6, w) }},
		{"grow speed", 3, 2, func() (int, int, bool) { return impl.GrowSpeed(6, w) }},
		{"minute of shadow", 2, 1, func() (int, int, bool) { return impl.MinuteOfShadow(6, w, 5) }},
		{"constant sum", 6, 1, func() (int, int, bool) { return impl.ConstantSum(12, 6, 2) }},
		{"equal place", 8, 1, func() (int, int, bool) { return impl.EqualPlace(12, 6, 4, 2) }},
	} {
		if num, den, ok := c.call(); num != c.num || den != c.den || !ok {
			t.Error(c.what, num, den, ok)
		}
	}
	if num, den, place, by, ok := impl.TipsMeet(6, w, stander); num != 8 || den != 9 || place != 10 || by != 1 || !ok {
		t.Error("tips", num, den, place, by, ok)
	}
	for place := 0; place <= 12; place++ {
		if num, den, ok := impl.SumOfShadows(12, 6, 6, place, 2); num != 6 || den != 1 || !ok {
			t.Error("sum at", place, num, den, ok)
		}
	}
	if turned, ok := impl.TurnWalker(6, w); turned != (impl.Walker{High: 2, Place: 4, Speed: -3}) || !ok {
		t.Error("turned", turned, ok)
	}
}

func TestIsWalker(t *testing.T) {
	sampleWalkers(func(lamp int, w impl.Walker) {
		if !impl.IsWalker(lamp, w) {
			t.Fatal(lamp, w, "is a walker")
		}
	})
	noWalkers(func(lamp int, w impl.Walker) {
		if impl.IsWalker(lamp, w) {
			t.Fatal(lamp, w, "is no walker")
		}
	})
	for _, lamp := range walkerNumbers {
		for _, high := range walkerNumbers {
			for _, place := range []int{math.MinInt, -1, 0, 500, 501, math.MaxInt} {
				for _, speed := range []int{math.MinInt, -51, -50, 0, 50, 51, math.MaxInt} {
					want := lamp >= 2 && lamp <= 200 && high >= 1 && high < lamp && place >= 0 && place <= 500 && speed >= -50 && speed <= 50
					if impl.IsWalker(lamp, impl.Walker{High: high, Place: place, Speed: speed}) != want {
						t.Fatal(lamp, high, place, speed, "is a walker:", !want)
					}
				}
			}
		}
	}
}

// Promise 6: the tip is on the line from the lamp by the top, the shadow goes to it, and both change by the told speeds.
func TestTipsByTheMinute(t *testing.T) {
	sampleWalkers(func(lamp int, w impl.Walker) {
		tipSpeed := told(t, w, func() (int, int, bool) { return impl.TipSpeed(lamp, w) })
		growSpeed := told(t, w, func() (int, int, bool) { return impl.GrowSpeed(lamp, w) })
		sameRat(t, w, sub(tipSpeed, growSpeed), rat(w.Speed, 1))
		firstTip := told(t, w, func() (int, int, bool) { return impl.TipAt(lamp, w, 0) })
		firstShadow := told(t, w, func() (int, int, bool) { return impl.ShadowAt(lamp, w, 0) })
		for minute := range 61 {
			what := []any{lamp, w, minute}
			place, ok := impl.PlaceAt(lamp, w, minute)
			callTip := func() (int, int, bool) { return impl.TipAt(lamp, w, minute) }
			callShadow := func() (int, int, bool) { return impl.ShadowAt(lamp, w, minute) }
			if w.Place+w.Speed*minute < 0 {
				if place != 0 || ok {
					t.Fatal(what, "place", place, ok)
				}
				failsWithZeros(t, what, callTip)
				failsWithZeros(t, what, callShadow)
				continue
			}
			if place != w.Place+w.Speed*minute || !ok {
				t.Fatal(what, "place", place, ok)
			}
			tip, shadow := told(t, what, callTip), told(t, what, callShadow)
			// As the height of the walker is to the shadow, so that of the lamp to the place of the tip.
			sameRat(t, what, mul(tip, rat(w.High, 1)), mul(shadow, rat(lamp, 1)))
			sameRat(t, what, sub(tip, shadow), rat(place, 1))
			sameRat(t, what, sub(tip, firstTip), mul(tipSpeed, rat(minute, 1)))
			sameRat(t, what, sub(shadow, firstShadow), mul(growSpeed, rat(minute, 1)))
			// Whoever stands still is like a pole.
			if place >= 1 && place <= 500 {
				sameRat(t, what, endOf(t, lamp, impl.Pole{Place: place, High: w.High}), tip)
			}
		}
	})
}

func TestMinutesOutOfTheirLimits(t *testing.T) {
	for _, w := range []impl.Walker{{High: 2, Place: 4, Speed: 3}, {High: 2, Place: 500, Speed: -1}, {High: 1, Place: 0, Speed: 0}, {High: 5, Place: 500, Speed: 50}} {
		for _, minute := range walkerNumbers {
			fine := minute >= 0 && minute <= 60
			if place, ok := impl.PlaceAt(6, w, minute); ok != fine || !fine && place != 0 {
				t.Error(w, minute, place, ok)
			}
			if inShadow, ok := impl.IsInShadow(6, w, w, minute); ok != fine || inShadow {
				t.Error(w, minute, inShadow, ok)
			}
			if !fine {
				failsWithZeros(t, minute, func() (int, int, bool) { return impl.TipAt(6, w, minute) })
				failsWithZeros(t, minute, func() (int, int, bool) { return impl.ShadowAt(6, w, minute) })
				if table, ok := impl.ShadowTable(6, w, minute); len(table) != 0 || ok {
					t.Error(w, minute, table, ok)
				}
			}
		}
	}
}

func TestPlacesAndTips(t *testing.T) {
	for _, c := range []struct {
		lamp             int
		text             string
		minute           int
		place            int
		tipNum, tipDen   int
		longNum, longDen int
	}{
		{6, "2@4+3", 0, 4, 6, 1, 2, 1},
		{6, "2@4-3", 1, 1, 3, 2, 1, 2},
		{6, "3@5+0", 60, 5, 10, 1, 5, 1},
		{6, "1@0+0", 60, 0, 0, 1, 0, 1},
		{6, "2@6-3", 2, 0, 0, 1, 0, 1}, // at the lamp just then
		{6, "2@0-50", 0, 0, 0, 1, 0, 1},
		{200, "199@500+50", 60, 3500, 700000, 1, 696500, 1}, // far behind all places at which walkers begin
		{200, "1@500+50", 60, 3500, 700000, 199, 3500, 199},
		{2, "1@500-50", 10, 0, 0, 1, 0, 1},
		{2, "1@500-8", 60, 20, 40, 1, 20, 1},
	} {
		w := parsedWalker(t, c.text)
		if place, ok := impl.PlaceAt(c.lamp, w, c.minute); place != c.place || !ok {
			t.Error(c, "place", place, ok)
		}
		if num, den, ok := impl.TipAt(c.lamp, w, c.minute); num != c.tipNum || den != c.tipDen || !ok {
			t.Error(c, "tip", num, den, ok)
		}
		if num, den, ok := impl.ShadowAt(c.lamp, w, c.minute); num != c.longNum || den != c.longDen || !ok {
			t.Error(c, "shadow", num, den, ok)
		}
	}
	// One minute more, and the walker would be at a place less than 0.
	for text, minute := range map[string]int{"2@4-3": 2, "2@6-3": 3, "2@0-1": 1, "2@500-50": 11, "2@59-1": 60} {
		w := parsedWalker(t, text)
		if place, ok := impl.PlaceAt(6, w, minute-1); place != w.Place+w.Speed*(minute-1) || !ok {
			t.Error(text, place, ok)
		}
		if place, ok := impl.PlaceAt(6, w, minute); place != 0 || ok {
			t.Error(text, place, ok)
		}
		failsWithZeros(t, text, func() (int, int, bool) { return impl.TipAt(6, w, minute) })
		failsWithZeros(t, text, func() (int, int, bool) { return impl.ShadowAt(6, w, minute) })
	}
}

func TestSpeeds(t *testing.T) {
	for _, c := range []struct {
		lamp               int
		text               string
		tipNum, tipDen     int
		growsNum, growsDen int
	}{
		{6, "2@4+3", 9, 2, 3, 2},
		{6, "2@4-3", -9, 2, -3, 2}, // less than 0
		{6, "2@0-3", -9, 2, -3, 2}, // at no minute behind the first one
		{6, "3@5+0", 0, 1, 0, 1},   // stands
		{6, "3@0+0", 0, 1, 0, 1},
		{2, "1@500-50", -100, 1, -50, 1},
		{200, "199@500-50", -10000, 1, -9950, 1},
		{200, "199@500+50", 10000, 1, 9950, 1},
		{200, "1@0+1", 200, 199, 1, 199},
		{10, "4@1-6", -10, 1, -4, 1},
	} {
		w := parsedWalker(t, c.text)
		if num, den, ok := impl.TipSpeed(c.lamp, w); num != c.tipNum || den != c.tipDen || !ok {
			t.Error(c, "tip", num, den, ok)
		}
		if num, den, ok := impl.GrowSpeed(c.lamp, w); num != c.growsNum || den != c.growsDen || !ok {
			t.Error(c, "grow", num, den, ok)
		}
	}
}

func TestMinuteAtLamp(t *testing.T) {
	sampleWalkers(func(lamp int, w impl.Walker) {
		call := func() (int, int, bool) { return impl.MinuteAtLamp(lamp, w) }
		if w.Place > 0 && w.Speed >= 0 {
			failsWithZeros(t, w, call)
			return
		}
		minute := told(t, w, call)
		sameRat(t, w, placeOf(w, minute), rat(0, 1))
		if w.Place == 0 && minute.Sign() != 0 || minute.Sign() < 0 {
			t.Fatal(w, "is at the lamp at first", minute)
		}
	})
	for _, c := range []struct {
		text     string
		num, den int
	}{
		{"2@4-3", 4, 3},
		{"2@6-3", 2, 1},
		{"2@0-3", 0, 1},
		{"2@0+3", 0, 1},
		{"2@0+0", 0, 1}, // at all minutes, at first at 0
		{"5@0+0", 0, 1},
		{"2@500-1", 500, 1}, // the minute that is asked has no limit
		{"2@1-50", 1, 50},
		{"2@48-36", 4, 3},
	} {
		if num, den, ok := impl.MinuteAtLamp(6, parsedWalker(t, c.text)); num != c.num || den != c.den || !ok {
			t.Error(c, num, den, ok)
		}
	}
}

// A shadow has a length, and a tip a place, at the told minute; if none is told, it never has from the minute 0 on, or the walker stands.
func TestMinutesOfShadowsAndTips(t *testing.T) {
	sampleWalkers(func(lamp int, w impl.Walker) {
		for _, number := range []int{0, 1, 2, 3, 5, 60, 250, 499, 500} {
			checkMinute(t, []any{lamp, w, number, "shadow"}, w, number,
				func(minute *big.Rat) *big.Rat { return sub(tipOf(lamp, w, minute), placeOf(w, minute)) },
				func() (int, int, bool) { return impl.MinuteOfShadow(lamp, w, number) })
			checkMinute(t, []any{lamp, w, number, "tip"}, w, number,
				func(minute *big.Rat) *big.Rat { return tipOf(lamp, w, minute) },
				func() (int, int, bool) { return impl.MinuteOfTip(lamp, w, number) })
		}
	})
}

// checkMinute checks a call that asks when something of a walker is a number.
func checkMinute(t *testing.T, what any, w impl.Walker, number int, at func(minute *big.Rat) *big.Rat, call callOfTwo) {
	t.Helper()
	want := rat(number, 1)
	first := at(rat(0, 1)).Cmp(want)
	// It only becomes less if the walker comes, and more if it goes.
	if w.Speed == 0 || w.Speed < 0 && first < 0 || w.Speed > 0 && first > 0 {
		failsWithZeros(t, what, call)
		return
	}
	minute := told(t, what, call)
	if minute.Sign() < 0 {
		t.Fatal(what, "before the minute 0", minute)
	}
	sameRat(t, what, at(minute), want)
}

func TestMinutesOfSomeShadowsAndTips(t *testing.T) {
	for _, c := range []struct {
		what     string
		text     string
		number   int
		num, den int
		fine     bool
	}{
		{"shadow", "2@4+3", 5, 2, 1, true},
		{"shadow", "2@4+3", 2, 0, 1, true},
		{"shadow", "2@4+3", 1, 0, 0, false}, // was so before
		{"shadow", "2@4-3", 1, 2, 3, true},
		{"shadow", "2@4-3", 2, 0, 1, true},
		{"shadow", "2@4-3", 3, 0, 0, false},
		{"shadow", "2@4-3", 0, 4, 3, true}, // at the lamp
		{"shadow", "2@4+0", 2, 0, 0, false},
		{"shadow", "2@4+0", 3, 0, 0, false},
		{"shadow", "2@0+0", 0, 0, 0, false}, // always
		{"shadow", "2@0-3", 0, 0, 1, true},
		{"shadow", "2@0+3", 0, 0, 1, true},
		{"shadow", "2@0-3", 1, 0, 0, false},
		{"shadow", "2@0+1", 500, 1000, 1, true}, // limit met, at a minute behind all that are given
		{"shadow", "2@0+1", 501, 0, 0, false},
		{"shadow", "2@0+1", -1, 0, 0, false},
		{"shadow", "2@4-3", -1, 0, 0, false},
		{"tip", "2@4+3", 6, 0, 1, true},
		{"tip", "2@4+3", 10, 8, 9, true},
		{"tip", "2@4+3", 5, 0, 0, false},
		{"tip", "2@4-3", 5, 2, 9, true},
		{"tip", "2@4-3", 0, 4, 3, true},
		{"tip", "2@4-3", 7, 0, 0, false},
		{"tip", "3@5+0", 10, 0, 0, false}, // always
		{"tip", "3@5+0", 9, 0, 0, false},
		{"tip", "3@0+0", 0, 0, 0, false},
		{"tip", "3@0+1", 0, 0, 1, true},
		{"tip", "3@0-1", 0, 0, 1, true},
		{"tip", "3@0+1", 500, 250, 1, true},
		{"tip", "3@0+1", 501, 0, 0, false},
		{"tip", "3@0+1", -1, 0, 0, false},
		{"tip", "3@5-1", -2, 0, 0, false},
	} {
		w := parsedWalker(t, c.text)
		call := impl.MinuteOfShadow
		if c.what == "tip" {
			call = impl.MinuteOfTip
		}
		if num, den, ok := call(6, w, c.number); num != c.num || den != c.den || ok != c.fine {
			t.Error(c, num, den, ok)
		}
	}
	for _, n := range walkerNumbers {
		if n < 0 || n > 500 {
			for _, text := range []string{"2@4+3", "2@4-3", "2@0-50", "2@500+50", "2@4+0"} {
				w := parsedWalker(t, text)
				failsWithZeros(t, n, func() (int, int, bool) { return impl.MinuteOfShadow(6, w, n) })
				failsWithZeros(t, n, func() (int, int, bool) { return impl.MinuteOfTip(6, w, n) })
			}
		}
	}
}

// meetingBy is when two things that go on evenly are at one place, as they are told by their places at two minutes: the place of one less that of the other is 0 once, from the minute 0 on and not behind the last minute of one of both.
func meetingBy(a impl.Walker, b impl.Walker, placeOfA func(*big.Rat) *big.Rat, placeOfB func(*big.Rat) *big.Rat) (*big.Rat, bool) {
	apart := func(minute *big.Rat) *big.Rat { return sub(placeOfA(minute), placeOfB(minute)) }
	first := apart(rat(0, 1))
	change := sub(apart(rat(1, 1)), first)
	if change.Sign() == 0 || first.Sign()*change.Sign() > 0 {
		return nil, false
	}
	minute := new(big.Rat).Quo(first, change)
	minute.Neg(minute)
	for _, w := range []impl.Walker{a, b} {
		if last, ok := lastMinute(w); ok && minute.Cmp(last) > 0 {
			return nil, false
		}
	}
	return minute, true
}

// pairsOfWalkers calls check for two walkers of one lamp.
func pairsOfWalkers(check func(lamp int, a impl.Walker, b impl.Walker)) {
	for _, lamp := range []int{2, 6, 200} {
		all := walkersOf(lamp)
		for i, a := range all {
			for k, b := range all {
				if i%3 == 0 || k%4 == 0 || a == b {
					check(lamp, a, b)
				}
			}
		}
	}
}

// Promise 6: tips that meet are at one place, and so are walkers.
func TestMeetings(t *testing.T) {
	met, missed := 0, 0
	pairsOfWalkers(func(lamp int, a impl.Walker, b impl.Walker) {
		what := []any{lamp, a, b}
		num, den, placeNum, placeDen, ok := impl.TipsMeet(lamp, a, b)
		want, meet := meetingBy(a, b, func(m *big.Rat) *big.Rat { return tipOf(lamp, a, m) }, func(m *big.Rat) *big.Rat { return tipOf(lamp, b, m) })
		if meet {
			met++
			sameRat(t, what, toldRat(t, "minute", num, den, ok), want)
			place := toldRat(t, "place", placeNum, placeDen, ok)
			sameRat(t, what, place, tipOf(lamp, a, want))
			sameRat(t, what, place, tipOf(lamp, b, want))
		} else if missed++; num != 0 || den != 0 || placeNum != 0 || placeDen != 0 || ok {
			t.Fatal(what, "tips never meet", num, den, placeNum, placeDen, ok)
		}
		call := func() (int, int, bool) { return impl.WalkersMeet(lamp, a, b) }
		want, meet = meetingBy(a, b, func(m *big.Rat) *big.Rat { return placeOf(a, m) }, func(m *big.Rat) *big.Rat { return placeOf(b, m) })
		if !meet {
			failsWithZeros(t, what, call)
			return
		}
		sameRat(t, what, told(t, what, call), want)
	})
	if met < 1000 || missed < 1000 {
		t.Error("not enough of both", met, missed)
	}
}

// By a lamp 6 high the tip is 6 / 5, 3 / 2, 2, 3 or 6 times as far as a walker who is 1, 2, 3, 4 or 5 high.
func TestSomeTipsMeet(t *testing.T) {
	for _, c := range []struct {
		a, b               string
		num, den           int
		placeNum, placeDen int
	}{
		{"2@4+3", "3@5+0", 8, 9, 10, 1},
		{"2@4+3", "3@3+1", 0, 1, 6, 1}, // at the minute 0
		{"2@4-3", "3@3+1", 0, 1, 6, 1},
		{"2@4+3", "3@3+0", 0, 1, 6, 1},
		{"2@0-1", "2@0-2", 0, 1, 0, 1}, // at the minute 0, as both are behind the lamp from then on
		{"2@0+0", "3@0-1", 0, 1, 0, 1},
		{"2@0+0", "3@0+1", 0, 1, 0, 1},
		{"2@6-3", "3@8-4", 2, 1, 0, 1}, // both just at the lamp
		{"2@6-3", "3@0+0", 2, 1, 0, 1}, // at the lamp, where the other one stands
		{"2@7-3", "3@8-4", 11, 7, 24, 7},
		{"2@8-1", "3@12-3", 8, 3, 8, 1},          // both come
		{"2@1+1", "3@6+0", 7, 1, 12, 1},          // one goes
		{"1@500+1", "1@499+2", 1, 1, 3006, 5},    // behind all places at which walkers begin
		{"3@500+49", "3@0+50", 500, 1, 50000, 1}, // at a minute behind all that are given
	} {
		a, b := parsedWalker(t, c.a), parsedWalker(t, c.b)
		if num, den, placeNum, placeDen, ok := impl.TipsMeet(6, a, b); num != c.num || den != c.den || placeNum != c.placeNum || placeDen != c.placeDen || !ok {
			t.Error(c, num, den, placeNum, placeDen, ok)
		}
		if num, den, placeNum, placeDen, ok := impl.TipsMeet(6, b, a); num != c.num || den != c.den || placeNum != c.placeNum || placeDen != c.placeDen || !ok {
			t.Error("exchanged", c, num, den, placeNum, placeDen, ok)
		}
	}
	for _, c := range [][2]string{
		{"2@4+3", "2@4+3"}, // the same walker
		{"2@4+0", "2@4+0"},
		{"2@4+4", "3@3+3"}, // go on alike
		{"2@4-4", "3@3-3"},
		{"2@0+4", "3@0+3"},
		{"2@4+0", "3@3+0"}, // stand, with the tips at one place
		{"2@0+0", "3@0+0"},
		{"2@4+0", "3@4+0"}, // stand, with the tips apart
		{"2@4+4", "3@4+3"}, // as fast, but apart
		{"2@4+3", "2@5+3"},
		{"2@4+3", "3@5+3"}, // farther apart with each minute
		{"2@4+3", "3@2+0"}, // met before the minute 0
		{"2@4-3", "3@5-1"},
		{"2@6-3", "3@8-3"}, // would meet when both are behind the lamp
		{"2@6-3", "3@9-4"},
		{"2@6-3", "2@9-4"},
	} {
		a, b := parsedWalker(t, c[0]), parsedWalker(t, c[1])
		if num, den, placeNum, placeDen, ok := impl.TipsMeet(6, a, b); num != 0 || den != 0 || placeNum != 0 || placeDen != 0 || ok {
			t.Error(c, num, den, placeNum, placeDen, ok)
		}
		if num, den, placeNum, placeDen, ok := impl.TipsMeet(6, b, a); num != 0 || den != 0 || placeNum != 0 || placeDen != 0 || ok {
			t.Error("exchanged", c, num, den, placeNum, placeDen, ok)
		}
	}
}

// For walkers that meet it does not matter how high they are.
func TestSomeWalkersMeet(t *testing.T) {
	for _, c := range []struct {
		a, b     string
		num, den int
	}{
		{"2@4+3", "3@5+0", 1, 3},
		{"2@4+3", "2@4+2", 0, 1},
		{"2@4+3", "5@4-3", 0, 1},
		{"2@0-1", "3@0-2", 0, 1},
		{"2@6-3", "3@8-4", 2, 1}, // at the lamp
		{"2@6-3", "3@0+0", 2, 1},
		{"1@0+50", "5@500+49", 500, 1},
		{"1@0+50", "5@500-50", 5, 1},
		{"1@500-50", "5@499-49", 1, 1},
	} {
		a, b := parsedWalker(t, c.a), parsedWalker(t, c.b)
		if num, den, ok := impl.WalkersMeet(6, a, b); num != c.num || den != c.den || !ok {
			t.Error(c, num, den, ok)
		}
		if num, den, ok := impl.WalkersMeet(6, b, a); num != c.num || den != c.den || !ok {
			t.Error("exchanged", c, num, den, ok)
		}
	}
	for _, c := range [][2]string{
		{"2@4+3", "2@4+3"}, // the same walker
		{"2@4+3", "3@4+3"}, // go on alike
		{"2@4-3", "3@4-3"},
		{"2@4+0", "3@4+0"}, // stand
		{"2@0+0", "3@0+0"},
		{"2@4+0", "3@5+0"},
		{"2@4+3", "2@5+3"}, // as fast, but apart
		{"2@4-3", "2@5-3"},
		{"2@4+3", "2@5+4"}, // farther apart with each minute
		{"2@4+3", "2@3+0"},
		{"2@6-3", "2@7-3"},
		{"2@6-3", "3@9-4"}, // would meet when both are behind the lamp
	} {
		a, b := parsedWalker(t, c[0]), parsedWalker(t, c[1])
		failsWithZeros(t, c, func() (int, int, bool) { return impl.WalkersMeet(6, a, b) })
		failsWithZeros(t, c, func() (int, int, bool) { return impl.WalkersMeet(6, b, a) })
	}
}

// Whoever is in a shadow is between the walker who throws it and its tip, and the line from the lamp goes over the head or just touches it.
func TestIsInShadow(t *testing.T) {
	in, out := 0, 0
	pairsOfWalkers(func(lamp int, a impl.Walker, b impl.Walker) {
		for _, minute := range []int{0, 1, 2, 10, 60} {
			placeA, placeB := a.Place+a.Speed*minute, b.Place+b.Speed*minute
			got, ok := impl.IsInShadow(lamp, a, b, minute)
			if placeA < 0 || placeB < 0 {
				if got || ok {
					t.Fatal(lamp, a, b, minute, "fails", got, ok)
				}
				continue
			}
			// The line falls from the lamp to the tip. At a walker who is at the lamp it falls straight down: nobody else is below it.
			want := false
			if placeB > placeA && placeA > 0 {
				line := lineAt(lamp, impl.Pole{Place: placeA, High: a.High}, rat(placeB, 1))
				want = line.Cmp(rat(b.High, 1)) >= 0
			}
			if got != want || !ok {
				t.Fatal(lamp, a, b, minute, got, ok)
			}
			if want {
				in++
			} else {
				out++
			}
		}
	})
	if in < 1000 || out < 1000 {
		t.Error("not enough of both", in, out)
	}
	for _, c := range []struct {
		a, b   string
		minute int
		in     bool
		fine   bool
	}{
		{"2@4+0", "1@5+0", 0, true, true}, // the top just on the line
		{"2@4+0", "1@5+0", 60, true, true},
		{"2@4+0", "2@5+0", 0, false, true}, // above the line
		{"2@4+0", "1@6+0", 0, false, true}, // the shadow ends at the foot
		{"2@4+0", "1@4+0", 0, false, true}, // at the same place
		{"2@4+0", "1@3+0", 0, false, true}, // nearer
		{"2@4+0", "1@6-1", 1, true, true},
		{"2@4+0", "1@6-1", 2, false, true},
		{"2@4+0", "1@6-1", 6, false, true},
		{"2@4+0", "1@6-1", 7, false, false},  // b would be at a place less than 0
		{"2@4-1", "1@50+0", 5, false, false}, // a would be
		{"2@4-1", "1@4-1", 5, false, false},
		{"5@4-1", "1@1+0", 4, false, true}, // a is at the lamp
		{"5@4-1", "1@1+0", 3, false, true},
		{"5@4-1", "1@2+0", 3, true, true},
		{"5@1+0", "1@5+0", 0, true, true},
		{"5@1+0", "1@5+0", 61, false, false},
		{"5@1+0", "1@5+0", -1, false, false},
		{"5@1+0", "1@6+0", 0, false, true},
		{"5@500+50", "1@500+51", 0, false, false},
	} {
		a, _ := impl.ParseWalker(c.a)
		b, _ := impl.ParseWalker(c.b)
		if in, ok := impl.IsInShadow(6, a, b, c.minute); in != c.in || ok != c.fine {
			t.Error(c, in, ok)
		}
	}
}

func TestShadowTable(t *testing.T) {
	sampleWalkers(func(lamp int, w impl.Walker) {
		for _, minutes := range []int{0, 1, 2, 12, 60} {
			table, ok := impl.ShadowTable(lamp, w, minutes)
			if w.Place+w.Speed*minutes < 0 {
				if len(table) != 0 || ok {
					t.Fatal(lamp, w, minutes, table, ok)
				}
				continue
			}
			if len(table) != minutes+1 || !ok {
				t.Fatal(lamp, w, minutes, table, ok)
			}
			for minute, row := range table {
				want := sub(tipOf(lamp, w, rat(minute, 1)), placeOf(w, rat(minute, 1)))
				sameRat(t, []any{lamp, w, minute}, listRat(t, w, row), want)
			}
		}
	})
	for _, c := range []struct {
		text    string
		minutes int
		want    [][]int
	}{
		{"2@4+3", 2, [][]int{{2, 1}, {7, 2}, {5, 1}}},
		{"2@4-3", 1, [][]int{{2, 1}, {1, 2}}},
		{"2@4-3", 2, nil},
		{"2@6-3", 2, [][]int{{3, 1}, {3, 2}, {0, 1}}}, // up to the lamp
		{"2@6-3", 3, nil},
		{"3@5+0", 3, [][]int{{5, 1}, {5, 1}, {5, 1}, {5, 1}}},
		{"2@0-1", 0, [][]int{{0, 1}}},
		{"2@0-1", 1, nil},
	} {
		table, ok := impl.ShadowTable(6, parsedWalker(t, c.text), c.minutes)
		if ok != (c.want != nil) || len(table) != len(c.want) || ok && !reflect.DeepEqual(table, c.want) {
			t.Error(c, table, ok)
		}
	}
}

// Every call with a walker that is none, or with a lamp that is none, fails with zeros.
func TestNoWalkers(t *testing.T) {
	good := impl.Walker{High: 1, Place: 4, Speed: 3}
	noWalkers(func(lamp int, w impl.Walker) {
		if place, ok := impl.PlaceAt(lamp, w, 0); place != 0 || ok {
			t.Fatal(lamp, w, place, ok)
		}
		for _, call := range []callOfTwo{
			func() (int, int, bool) { return impl.TipAt(lamp, w, 0) },
			func() (int, int, bool) { return impl.ShadowAt(lamp, w, 0) },
			func() (int, int, bool) { return impl.TipSpeed(lamp, w) },
			func() (int, int, bool) { return impl.GrowSpeed(lamp, w) },
			func() (int, int, bool) { return impl.MinuteAtLamp(lamp, w) },
			func() (int, int, bool) { return impl.MinuteOfShadow(lamp, w, 1) },
			func() (int, int, bool) { return impl.MinuteOfTip(lamp, w, 1) },
			func() (int, int, bool) { return impl.WalkersMeet(lamp, w, good) },
			func() (int, int, bool) { return impl.WalkersMeet(lamp, good, w) },
		} {
			failsWithZeros(t, []any{lamp, w}, call)
		}
		for _, pair := range [][2]impl.Walker{{w, good}, {good, w}, {w, w}} {
			if num, den, placeNum, placeDen, ok := impl.TipsMeet(lamp, pair[0], pair[1]); num != 0 || den != 0 || placeNum != 0 || placeDen != 0 || ok {
				t.Fatal(lamp, pair, "meet", num, den, placeNum, placeDen, ok)
			}
			if in, ok := impl.IsInShadow(lamp, pair[0], pair[1], 0); in || ok {
				t.Fatal(lamp, pair, "in shadow", in, ok)
			}
		}
		if table, ok := impl.ShadowTable(lamp, w, 0); len(table) != 0 || ok {
			t.Fatal(lamp, w, table, ok)
		}
		if turned, ok := impl.TurnWalker(lamp, w); turned != (impl.Walker{}) || ok {
			t.Fatal(lamp, w, turned, ok)
		}
	})
	// Walkers of a higher lamp only.
	for _, lamp := range []int{2, 5, 6} {
		w := impl.Walker{High: 6, Place: 4, Speed: 3}
		failsWithZeros(t, lamp, func() (int, int, bool) { return impl.TipSpeed(lamp, w) })
		failsWithZeros(t, lamp, func() (int, int, bool) { return impl.WalkersMeet(lamp, w, good) })
		failsWithZeros(t, lamp, func() (int, int, bool) { return impl.WalkersMeet(lamp, good, w) })
	}
}

// lampsWithSomebody calls check for two lamps and somebody who is lower than both.
func lampsWithSomebody(check func(wide int, left int, right int, high int)) {
	lamps := []int{2, 3, 4, 6, 7, 100, 199, 200}
	for _, wide := range []int{1, 2, 3, 12, 60, 499, 500} {
		for _, left := range lamps {
			for _, right := range lamps {
				least := min(left, right)
				for _, high := range []int{1, 2, least / 2, least - 1} {
					if high >= 1 && high < least {
						check(wide, left, right, high)
					}
				}
			}
		}
	}
}

// bothShadows are how long the shadows by the left and by the right lamp are.
func bothShadows(wide int, left int, right int, high int, place *big.Rat) (*big.Rat, *big.Rat) {
	return mul(place, rat(high, left-high)), mul(sub(rat(wide, 1), place), rat(high, right-high))
}

func TestTwoLamps(t *testing.T) {
	lampsWithSomebody(func(wide int, left int, right int, high int) {
		what := []any{wide, left, right, high}
		for _, place := range []int{0, 1, wide / 3, wide / 2, wide - 1, wide} {
			sum := told(t, what, func() (int, int, bool) { return impl.SumOfShadows(wide, left, right, place, high) })
			byLeft, byRight := bothShadows(wide, left, right, high, rat(place, 1))
			sameRat(t, what, sum, add(byLeft, byRight))
			if place >= 1 { // the shadow by the left lamp is that of a pole
				pole := impl.Pole{Place: place, High: high}
				sameRat(t, what, byLeft, told(t, what, func() (int, int, bool) { return impl.ShadowLength(left, pole) }))
			}
			if left == right {
				sameRat(t, what, told(t, what, func() (int, int, bool) { return impl.ConstantSum(wide, left, high) }), sum)
			}
		}
		place := told(t, what, func() (int, int, bool) { return impl.EqualPlace(wide, left, right, high) })
		if place.Sign() <= 0 || place.Cmp(rat(wide, 1)) >= 0 {
			t.Fatal(what, "not between the lamps", place)
		}
		byLeft, byRight := bothShadows(wide, left, right, high, place)
		sameRat(t, what, byLeft, byRight)
		failsWithZeros(t, what, func() (int, int, bool) { return impl.SumOfShadows(wide, left, right, -1, high) })
		failsWithZeros(t, what, func() (int, int, bool) { return impl.SumOfShadows(wide, left, right, wide+1, high) })
	})
	for _, c := range []struct {
		wide, left, right, place, high int
		num, den                       int
	}{
		{12, 6, 4, 8, 2, 8, 1}, // 4 to each side
		{12, 6, 4, 0, 2, 12, 1},
		{12, 6, 4, 12, 2, 6, 1},
		{12, 4, 6, 0, 2, 6, 1},
		{12, 6, 4, 5, 3, 26, 1},
		{500, 200, 200, 77, 199, 99500, 1}, // farther than the lamps are apart
		{1, 2, 2, 0, 1, 1, 1},
		{7, 4, 5, 3, 1, 2, 1},
		{7, 4, 5, 2, 1, 23, 12},
	} {
		if num, den, ok := impl.SumOfShadows(c.wide, c.left, c.right, c.place, c.high); num != c.num || den != c.den || !ok {
			t.Error(c, num, den, ok)
		}
	}
	for _, c := range []struct {
		wide, left, right, high int
		num, den                int
	}{
		{12, 6, 4, 2, 8, 1},
		{12, 4, 6, 2, 4, 1},
		{12, 6, 6, 2, 6, 1},
		{1, 2, 2, 1, 1, 2},
		{500, 200, 2, 1, 995, 2},
	} {
		if num, den, ok := impl.EqualPlace(c.wide, c.left, c.right, c.high); num != c.num || den != c.den || !ok {
			t.Error(c, num, den, ok)
		}
	}
}

// checkNoLamps checks that all calls with two lamps, or with one lamp twice, fail.
func checkNoLamps(t *testing.T, wide int, left int, right int, high int) {
	t.Helper()
	what := []any{wide, left, right, high}
	for _, place := range []int{0, 1, wide} {
		failsWithZeros(t, what, func() (int, int, bool) { return impl.SumOfShadows(wide, left, right, place, high) })
	}
	failsWithZeros(t, what, func() (int, int, bool) { return impl.EqualPlace(wide, left, right, high) })
	if left == right {
		failsWithZeros(t, what, func() (int, int, bool) { return impl.ConstantSum(wide, left, high) })
	}
}

func TestNoTwoLamps(t *testing.T) {
	for _, n := range walkerNumbers {
		if n < 1 || n > 500 {
			checkNoLamps(t, n, 6, 4, 2)
			checkNoLamps(t, n, 6, 6, 2)
		}
		if n < 2 || n > 200 {
			checkNoLamps(t, 12, n, 4, 1)
			checkNoLamps(t, 12, 6, n, 1)
			checkNoLamps(t, 12, n, n, 1)
		}
		if n < 1 || n > 3 {
			checkNoLamps(t, 12, 6, 4, n)
			checkNoLamps(t, 12, 4, 6, n)
			checkNoLamps(t, 12, 4, 4, n)
		}
		if n < 0 || n > 12 {
			failsWithZeros(t, n, func() (int, int, bool) { return impl.SumOfShadows(12, 6, 4, n, 2) })
			failsWithZeros(t, n, func() (int, int, bool) { return impl.SumOfShadows(12, 6, 6, n, 2) })
		}
		checkNoLamps(t, n, n, n, n)
	}
	checkNoLamps(t, 12, 2, 200, 2) // as high as the lower one
	checkNoLamps(t, 12, 200, 2, 2)
	checkNoLamps(t, 12, 2, 2, 2)
	checkNoLamps(t, 12, 200, 200, 200)
}

func TestTurnWalker(t *testing.T) {
	sampleWalkers(func(lamp int, w impl.Walker) {
		turned, ok := impl.TurnWalker(lamp, w)
		if turned != (impl.Walker{High: w.High, Place: w.Place, Speed: -w.Speed}) || !ok {
			t.Fatal(lamp, w, turned, ok)
		}
		back, ok := impl.TurnWalker(lamp, turned)
		if back != w || !ok {
			t.Fatal(lamp, w, "turned twice", back, ok)
		}
		if w.Speed == 0 && turned != w {
			t.Fatal(lamp, w, "stands", turned)
		}
	})
}

func TestWalkerTexts(t *testing.T) {
	check := func(w impl.Walker, want string) {
		t.Helper()
		if text, ok := impl.WalkerText(w); text != want || !ok {
			t.Fatal(w, text, ok)
		}
		if back, ok := impl.ParseWalker(want); back != w || !ok {
			t.Fatal(want, back, ok)
		}
	}
	for _, high := range []int{1, 2, 9, 10, 99, 100, 198, 199} {
		for _, place := range []int{0, 1, 9, 10, 99, 100, 499, 500} {
			for speed := -50; speed <= 50; speed++ {
				sign := "+"
				if speed < 0 {
					sign = "-"
				}
				check(impl.Walker{High: high, Place: place, Speed: speed},
					strconv.Itoa(high)+"@"+strconv.Itoa(place)+sign+strconv.Itoa(max(speed, -speed)))
			}
		}
	}
	check(impl.Walker{High: 2, Place: 4, Speed: 3}, "2@4+3")
	check(impl.Walker{High: 2, Place: 4, Speed: -3}, "2@4-3")
	check(impl.Walker{High: 3, Place: 5}, "3@5+0")
	check(impl.Walker{High: 199, Place: 500, Speed: -50}, "199@500-50")
	check(impl.Walker{High: 1}, "1@0+0")
	for _, n := range walkerNumbers {
		for _, w := range []impl.Walker{{High: n, Place: 4, Speed: 3}, {High: 2, Place: n, Speed: 3}, {High: 2, Place: 4, Speed: n}, {High: n, Place: n, Speed: n}} {
			// It is one of some lamp: of the highest one, if of any.
			text, ok := impl.WalkerText(w)
			if ok != impl.IsWalker(200, w) || !ok && text != "" {
				t.Error(w, text, ok)
			}
		}
	}
	if text, ok := impl.WalkerText(impl.Walker{}); text != "" || ok {
		t.Error("no walker", text, ok)
	}
}

// Texts that are almost WalkerTexts are none.
func TestNoWalkerTexts(t *testing.T) {
	for _, s := range []string{
		"", "@", "+", "-", "@+", "2", "2@", "2@4", "@4+3", "2@+3", "2@4+", "2@4-", "24+3", "2+3", "2@4 3", "2@43", "2@4@3", "2@4@+3", "2@@4+3",
		"2@4++3", "2@4--3", "2@4+-3", "2@4-+3", "2@4+3+", "2@4+3-", "2@4+3+1", "2@4-3-1", "2@4+3-1", "2@4-0", "2@4-00", "2@4+00", "2@4+03", "2@4-03",
		"02@4+3", "2@04+3", "2@00+3", "+2@4+3", "-2@4+3", "2@+4+3", "2@-4+3", "2@-4-3", "2@-0+3", "0@4+3", "200@4+3", "2@501+3", "2@4+51", "2@4-51",
		" 2@4+3", "2@4+3 ", "2 @4+3", "2@ 4+3", "2@4 +3", "2@4+ 3", "2@4+3\n", "2@4+3\x00", "2:4+3", "2|4+3", "2@4*3", "2@4.3", "2@4\u22123", "2@4\uff0b3",
		"0x2@4+3", "2@0x4+3", "2@4+0x3", "2@4+3e0", "2@4+1_0", "2.0@4+3", "2@4.0+3", "2@4+3.0",
		"18446744073709551618@4+3", "2@18446744073709551620+3", "2@4+18446744073709551619", "2@4-18446744073709551613",
		"2@9223372036854775808+3", "9223372036854775807@4+3", "2@4-9223372036854775808", "2@4-9223372036854775809", "2@4+4294967299", "4294967298@4+3",
		"\u0662@4+3", "2@4+\u0663", "2@4+3\xff", "\xff2@4+3",
		strings.Repeat("2@", 100000), strings.Repeat("9", 100000) + "@4+3", "2@" + strings.Repeat("+", 100000), "2@4-" + strings.Repeat("0", 100000) + "3",
	} {
		if w, ok := impl.ParseWalker(s); w != (impl.Walker{}) || ok {
			t.Errorf("%.40q: %v %v", s, w, ok)
		}
	}
	// A text that is parsed is just the text of what it is parsed to: each byte of it counts.
	for _, base := range []string{"10@60+30", "10@60-30", "1@0+0"} {
		for i := 0; i <= len(base); i++ {
			for b := range 256 {
				for j := i; j <= len(base); j++ {
					s := base[:i] + string([]byte{byte(b)}) + base[j:]
					w, ok := impl.ParseWalker(s)
					if text, _ := impl.WalkerText(w); ok && text != s || !ok && w != (impl.Walker{}) {
						t.Fatalf("%q: %v %v", s, w, ok)
					}
				}
			}
		}
	}
}

// Promise 11: no number makes a call panic, in whatever place it is.
func TestWalkerCallsNeverPanic(t *testing.T) {
	calm := func(...any) {}
	numbers := []int{math.MinInt, -501, -51, -50, -1, 0, 1, 2, 50, 60, 61, 199, 200, 201, 500, 501, math.MaxInt}
	for _, lamp := range numbers {
		for _, high := range numbers {
			for _, place := range numbers {
				calm(impl.EqualPlace(place, lamp, high, 1))
				calm(impl.ConstantSum(place, lamp, high))
				for _, speed := range numbers {
					w := impl.Walker{High: high, Place: place, Speed: speed}
					calm(impl.IsWalker(lamp, w))
					calm(impl.WalkerText(w))
					calm(impl.TipSpeed(lamp, w))
					calm(impl.GrowSpeed(lamp, w))
					calm(impl.MinuteAtLamp(lamp, w))
					calm(impl.TurnWalker(lamp, w))
					calm(impl.EqualPlace(lamp, high, place, speed))
					calm(impl.SumOfShadows(lamp, high, place, speed, 1))
					calm(impl.SumOfShadows(lamp, high, 200, place, speed))
					other := impl.Walker{High: 1, Place: speed, Speed: place}
					for _, number := range numbers {
						calm(impl.PlaceAt(lamp, w, number))
						calm(impl.TipAt(lamp, w, number))
						calm(impl.ShadowAt(lamp, w, number))
						calm(impl.MinuteOfShadow(lamp, w, number))
						calm(impl.MinuteOfTip(lamp, w, number))
						calm(impl.IsInShadow(lamp, w, other, number))
						calm(impl.IsInShadow(lamp, other, w, number))
						calm(impl.ShadowTable(lamp, w, number))
						meets := impl.Walker{High: 1, Place: 7, Speed: number}
						calm(impl.TipsMeet(lamp, w, meets))
						calm(impl.TipsMeet(lamp, meets, w))
						calm(impl.WalkersMeet(lamp, w, meets))
						calm(impl.WalkersMeet(lamp, meets, w))
					}
				}
			}
		}
	}
}

// Results are new memory: changing one changes neither another call's result nor another slice of the same one.
func TestShadowTablesAreNew(t *testing.T) {
	w := impl.Walker{High: 2, Place: 4, Speed: 3}
	want, _ := impl.ShadowTable(6, w, 9)
	spoiled, _ := impl.ShadowTable(6, w, 9)
	for k := range spoiled {
		_ = append(spoiled[k], -1, -1, -1)
		if !reflect.DeepEqual(spoiled, want) {
			t.Fatal("rows share memory", spoiled)
		}
	}
	spoiled[1][0], spoiled[1][1] = -1, -1
	if !reflect.DeepEqual(spoiled[2:], want[2:]) || !reflect.DeepEqual(spoiled[0], want[0]) {
		t.Error("rows share memory", spoiled)
	}
	if again, _ := impl.ShadowTable(6, w, 9); !reflect.DeepEqual(again, want) {
		t.Error("tables are kept between calls", again)
	}
	if w != (impl.Walker{High: 2, Place: 4, Speed: 3}) {
		t.Error("the walker is modified", w)
	}
}
