package tests

import (
	"math"
	"math/big"
	"reflect"
	"runtime"
	"slices"
	"strings"
	"sync"
	"testing"
	"time"

	"loop.example/g01351/impl"
)

// mirrorNumbers are ints at and around every limit of chapter 4, and at the ends of what an int can be.
var mirrorNumbers = []int{
	math.MinInt, math.MinInt + 1, -1 << 32, -100001, -100000, -500, -1, 0, 1, 2, 3, 39, 40, 41, 60, 90, 91, 180,
	299, 300, 301, 359, 360, 361, 499, 500, 501, 9999, 10000, 10001, 100000, 100001, 1 << 31, 1 << 32, 1<<32 + 1,
	1 << 62, math.MaxInt - 1, math.MaxInt,
}

// noWords are texts that tell no reflections: other signs, two of one kind side by side, or too many of them.
var noWords = []string{
	"ll", "rr", "lrr", "lrll", "rlrlrr", "llr", "x", "L", "R", "lR", "Lr", " ", " l", "l ", "l r", "l,r", "lr\n", "\x00", "l\x00r", "-", "1",
	"l\xff", "\xc5\x82", "\xef\xbd\x8cr", "lrx", "xlr", "kq", "ms", strings.Repeat("lr", 20) + "l", strings.Repeat("rl", 20) + "r",
	strings.Repeat("lr", 21), strings.Repeat("lr", 1<<16), strings.Repeat("l", 40), strings.Repeat("lr", 19) + "ll",
}

// noPoints are lists that are no point.
func noPoints() [][]int {
	all := [][]int{nil, {}, {2}, {500}, {2, 1, 1}, {2, 1, 0}, {1, 1, 1, 1}, make([]int, 1000), make([]int, 0, 2), []int{2, 1}[:1]}
	for _, n := range mirrorNumbers {
		if n < 1 || n > 500 {
			all = append(all, []int{n, 1}, []int{1, n}, []int{n, n}, []int{n, 500}, []int{500, n})
		}
	}
	return all
}

// samplePoints are points near and far, low and high.
func samplePoints() [][]int {
	sizes := []int{1, 2, 3, 4, 7, 60, 250, 499, 500}
	var all [][]int
	for _, far := range sizes {
		for _, up := range sizes {
			all = append(all, []int{far, up})
		}
	}
	return all
}

// inCorridors calls check for all corridors up to 7 wide, and for some wider ones, with something everywhere, or at some places of the wider ones.
func inCorridors(check func(wide int, at int)) {
	for wide := 1; wide <= 7; wide++ {
		for at := 0; at <= wide; at++ {
			check(wide, at)
		}
	}
	for _, wide := range []int{10, 60, 61, 499, 500} {
		for _, at := range []int{0, 1, 3, wide / 2, wide/2 + 1, wide - 1, wide} {
			check(wide, at)
		}
	}
}

// noCorridors calls check for what is no corridor with something in it.
func noCorridors(check func(wide int, at int)) {
	for _, n := range mirrorNumbers {
		if n < 1 || n > 500 {
			check(n, 0)
			check(n, 3)
			check(n, n)
		}
		if n < 0 || n > 10 {
			check(10, n)
		}
		if n < 0 || n > 500 {
			check(500, n)
		}
	}
	check(10, 11)
	check(1, 2)
	check(500, 501)
}

// imageByFormula is where something is behind a word of so many signs that begins with l, or with r: each two signs lead twice the width on.
func imageByFormula(wide int, at int, signs int, withL bool) int {
	on := signs / 2 * 2 * wide
	switch {
	case withL && signs%2 == 0:
		return at + on
	case withL:
		return -(at + on)
	case signs%2 == 0:
		return at - on
	}
	return 2*wide - (at - on)
}

// wordOf is the word of so many signs that begins with l, or with r.
func wordOf(signs int, withL bool) string {
	if withL {
		return strings.Repeat("lr", signs)[:signs]
	}
	return strings.Repeat("rl", signs)[:signs]
}

// imagesByFormula are the places of images by 1 up to most signs, increasing, each once.
func imagesByFormula(wide int, at int, most int) []int {
	there := map[int]bool{}
	for signs := 1; signs <= most; signs++ {
		there[imageByFormula(wide, at, signs, true)] = true
		there[imageByFormula(wide, at, signs, false)] = true
	}
	var all []int
	for place := range there {
		all = append(all, place)
	}
	slices.Sort(all)
	return all
}

// isImage tells whether a place is one of an image of any number of signs, at least 1, by what it leaves from twice the width: something is seen at its own place only if it is on a mirror.
func isImage(wide int, at int, place int) bool {
	left := ((place % (2 * wide)) + 2*wide) % (2 * wide)
	if place == at {
		return at == 0 || at == wide
	}
	return left == at%(2*wide) || left == (2*wide-at)%(2*wide)
}

func TestMirrorExample(t *testing.T) {
	if place, ok := impl.ImageAfter(10, 3, "l"); place != -3 || !ok {
		t.Error("l", place, ok)
	}
	if place, ok := impl.ImageAfter(10, 3, "lr"); place != 23 || !ok {
		t.Error("lr", place, ok)
	}
	if l, ok := impl.ImagesUpTo(10, 3, 2); !ok || !reflect.DeepEqual(l, []int{-17, -3, 17, 23}) {
		t.Error("images", l, ok)
	}
	if n, ok := impl.CountNear(10, 3, 5, 12); n != 2 || !ok {
		t.Error("near", n, ok)
	}
	if n, ok := impl.NearestImage(10, 3, 5); n != -3 || !ok {
		t.Error("nearest", n, ok)
	}
	if n, ok := impl.FarthestOf(10, 3, 5, 3); n != 18 || !ok {
		t.Error("third", n, ok)
	}
	if l, ok := impl.WedgeImages(60, 20); !ok || !reflect.DeepEqual(l, []int{100, 140, 220, 260, 340}) {
		t.Error("wedge", l, ok)
	}
	if n, ok := impl.WedgeSteps(60, 20, 220); n != 3 || !ok {
		t.Error("steps", n, ok)
	}
	if l, ok := impl.AnglesFor(5); !ok || !reflect.DeepEqual(l, []int{60}) {
		t.Error("angles", l, ok)
	}
	if a, b, c, d, ok := impl.MirrorFor(170, 160); a != 80 || b != 1 || c != 165 || d != 1 || !ok {
		t.Error("mirror", a, b, c, d, ok)
	}
	if a, b, ok := impl.LookedAt([]int{2, 1}, []int{4, 7}); a != 3 || b != 1 || !ok {
		t.Error("looked at", a, b, ok)
	}
	if n, ok := impl.LookSquare([]int{2, 1}, []int{4, 7}); n != 72 || !ok {
		t.Error("square", n, ok)
	}
}

// Promise 4: behind a word something seems to be where its reflections lead, one after the other.
func TestImagesOfWords(t *testing.T) {
	inCorridors(func(wide int, at int) {
		if place, ok := impl.ImageAfter(wide, at, ""); place != at || !ok {
			t.Fatal("the empty word", wide, at, place, ok)
		}
		for signs := 1; signs <= 40; signs++ {
			for _, withL := range []bool{true, false} {
				word := wordOf(signs, withL)
				want := imageByFormula(wide, at, signs, withL)
				if place, ok := impl.ImageAfter(wide, at, word); place != want || !ok {
					t.Fatal(wide, at, word, place, ok, "instead of", want)
				}
				if signs == 40 {
					continue
				}
				// One sign more reflects what came out before.
				before, _ := impl.ImageAfter(wide, at, word)
				left, leftOk := impl.ImageAfter(wide, at, word+"l")
				right, rightOk := impl.ImageAfter(wide, at, word+"r")
				if word[signs-1] == 'r' && (left != -before || !leftOk || right != 0 || rightOk) {
					t.Fatal(wide, at, word, before, left, right)
				}
				if word[signs-1] == 'l' && (right != 2*wide-before || !rightOk || left != 0 || leftOk) {
					t.Fatal(wide, at, word, before, left, right)
				}
			}
		}
		for _, word := range noWords {
			if place, ok := impl.ImageAfter(wide, at, word); place != 0 || ok {
				t.Fatalf("%q is no word, but leads to %d", word, place)
			}
		}
	})
	noCorridors(func(wide int, at int) {
		for _, word := range []string{"", "l", "r", "lr", "ll"} {
			if place, ok := impl.ImageAfter(wide, at, word); place != 0 || ok {
				t.Fatal("no corridor", wide, at, place, ok)
			}
		}
	})
}

// Promise 4: the images are those of words, and the words those of the images.
func TestImagesUpTo(t *testing.T) {
	inCorridors(func(wide int, at int) {
		for most := 0; most <= 40; most++ {
			l, ok := impl.ImagesUpTo(wide, at, most)
			if want := imagesByFormula(wide, at, most); !ok || len(l) != len(want) || len(l) > 0 && !reflect.DeepEqual(l, want) {
				t.Fatal(wide, at, most, l, ok, "instead of", want)
			}
			onMirror := at == 0 || at == wide
			if most > 0 && onMirror && len(l) != most+1 || !onMirror && len(l) != 2*most {
				t.Fatal(wide, at, most, "images:", len(l))
			}
		}
		for _, most := range mirrorNumbers {
			if most >= 0 && most <= 40 {
				continue
			}
			if l, ok := impl.ImagesUpTo(wide, at, most); len(l) != 0 || ok {
				t.Fatal(wide, at, most, l, ok)
			}
		}
	})
	noCorridors(func(wide int, at int) {
		for _, most := range []int{0, 2, 40} {
			if l, ok := impl.ImagesUpTo(wide, at, most); len(l) != 0 || ok {
				t.Fatal(wide, at, most, l, ok)
			}
		}
	})
	for _, c := range []struct {
		wide, at, most int
		want           []int
	}{
		{10, 0, 1, []int{0, 20}},
		{10, 0, 2, []int{-20, 0, 20}},
		{10, 10, 1, []int{-10, 10}},
		{10, 10, 2, []int{-10, 10, 30}},
		{10, 5, 1, []int{-5, 15}},
		{1, 0, 3, []int{-2, 0, 2, 4}},
		{500, 500, 1, []int{-500, 500}},
	} {
		if l, ok := impl.ImagesUpTo(c.wide, c.at, c.most); !ok || !reflect.DeepEqual(l, c.want) {
			t.Error(c.wide, c.at, c.most, l, ok)
		}
	}
}

// Promise 4: a word of an image leads to it, and no shorter one does.
func TestWordsOfImages(t *testing.T) {
	inCorridors(func(wide int, at int) {
		first := map[int]string{at: ""}
		for signs := 1; signs <= 40; signs++ {
			for _, withL := range []bool{true, false} {
				place := imageByFormula(wide, at, signs, withL)
				if _, known := first[place]; !known {
					first[place] = wordOf(signs, withL)
				}
			}
		}
		far := 43 * wide
		if wide > 61 {
			for place := range first {
				checkWord(t, wide, at, place, first)
				checkWord(t, wide, at, place-1, first)
				checkWord(t, wide, at, place+1, first)
			}
			far = 2 * wide
		}
		for place := -far; place <= far; place++ {
			checkWord(t, wide, at, place, first)
		}
		for _, withL := range []bool{true, false} {
			for _, signs := range []int{39, 40, 41, 42} {
				checkWord(t, wide, at, imageByFormula(wide, at, signs, withL), first)
			}
		}
		for _, place := range mirrorNumbers {
			checkWord(t, wide, at, place, first)
		}
	})
	noCorridors(func(wide int, at int) {
		for _, place := range append([]int{at, -at}, mirrorNumbers...) {
			if word, ok := impl.WordOfImage(wide, at, place); word != "" || ok {
				t.Fatal("no corridor", wide, at, place, word, ok)
			}
		}
	})
}

func checkWord(t *testing.T, wide int, at int, place int, first map[int]string) {
	t.Helper()
	want, known := first[place]
	word, ok := impl.WordOfImage(wide, at, place)
	if word != want || ok != known {
		t.Fatalf("%d wide, at %d, image %d: %q %v instead of %q %v", wide, at, place, word, ok, want, known)
	}
	if back, backOk := impl.ImageAfter(wide, at, word); ok && (back != place || !backOk) {
		t.Fatal(wide, at, place, word, "leads to", back, backOk)
	}
}

func TestWordsOfOneWidth(t *testing.T) {
	for _, c := range []struct {
		wide, at, image int
		want            string
		ok              bool
	}{
		{10, 3, 3, "", true},
		{10, 3, -3, "l", true},
		{10, 3, 17, "r", true},
		{10, 3, 23, "lr", true},
		{10, 3, -17, "rl", true},
		{10, 3, -23, "lrl", true},
		{10, 3, 0, "", false},
		{10, 3, 4, "", false},
		{10, 0, 0, "", true}, // by l also, but by none already
		{10, 0, 20, "r", true},
		{10, 0, -20, "rl", true},
		{10, 10, 10, "", true},
		{10, 10, -10, "l", true},
		{10, 10, 30, "lr", true},
		{10, 5, -5, "l", true},
		{500, 1, 20001, wordOf(40, true), true},
		{500, 1, -19999, wordOf(40, false), true},
		{500, 1, -20001, "", false},
		{500, 1, 20999, "", false},
		{500, 500, 20500, wordOf(40, true), true},
		{500, 500, -20500, "", false},
		{500, 0, 100000, "", false},
		{500, 0, -100000, "", false},
		{500, 0, 100001, "", false},
		{500, 0, math.MaxInt, "", false},
		{500, 0, math.MinInt, "", false},
	} {
		if word, ok := impl.WordOfImage(c.wide, c.at, c.image); word != c.want || ok != c.ok {
			t.Error(c.wide, c.at, c.image, word, ok)
		}
	}
}

// Promise 4: near images are those at the places around a seer.
func TestCountNear(t *testing.T) {
	inCorridors(func(wide int, at int) {
		for _, seer := range []int{0, 1, wide / 2, wide - 1, wide} {
			counted := 0
			for far := 0; far <= 6*min(wide, 61)+5; far++ {
				if isImage(wide, at, seer+far) {
					counted++
				}
				if far > 0 && isImage(wide, at, seer-far) {
					counted++
				}
				if n, ok := impl.CountNear(wide, at, seer, far); n != counted || !ok {
					t.Fatal(wide, at, seer, far, n, ok, "instead of", counted)
				}
			}
		}
		for _, seer := range mirrorNumbers {
			if seer >= 0 && seer <= wide {
				continue
			}
			if n, ok := impl.CountNear(wide, at, seer, 12); n != 0 || ok {
				t.Fatal("no seer", wide, at, seer, n, ok)
			}
		}
		for _, far := range mirrorNumbers {
			if far >= 0 && far <= 10000 {
				continue
			}
			if n, ok := impl.CountNear(wide, at, 1, far); n != 0 || ok {
				t.Fatal("too far", wide, at, far, n, ok)
			}
		}
	})
	noCorridors(func(wide int, at int) {
		if n, ok := impl.CountNear(wide, at, 0, 12); n != 0 || ok {
			t.Fatal("no corridor", wide, at, n, ok)
		}
	})
}

// The farthest ones are by many more reflections than a word may have.
func TestCountNearFarAway(t *testing.T) {
	for _, c := range [][4]int{
		{1, 0, 0, 10000}, {1, 0, 1, 9999}, {1, 1, 1, 10000}, {2, 1, 1, 10000}, {3, 1, 2, 10000}, {7, 3, 0, 9999}, {10, 3, 5, 10000},
		{10, 3, 5, 9998}, {61, 0, 61, 10000}, {61, 60, 1, 10000}, {499, 7, 499, 10000}, {500, 0, 0, 10000}, {500, 0, 0, 9999},
		{500, 500, 0, 9500}, {500, 500, 0, 9499}, {500, 1, 500, 10000}, {500, 0, 500, 9500}, {500, 250, 250, 10000}, {500, 250, 250, 9999},
	} {
		wide, at, seer, far := c[0], c[1], c[2], c[3]
		counted := 0
		for place := seer - far; place <= seer+far; place++ {
			if isImage(wide, at, place) {
				counted++
			}
		}
		if n, ok := impl.CountNear(wide, at, seer, far); n != counted || !ok {
			t.Error(c, n, ok, "instead of", counted)
		}
	}
	if n, ok := impl.CountNear(1, 0, 0, 10000); n != 10001 || !ok {
		t.Error("all even places", n, ok)
	}
	if n, ok := impl.CountNear(10, 0, 0, 0); n != 1 || !ok {
		t.Error("on the mirror it is seen at its place", n, ok)
	}
	if n, ok := impl.CountNear(10, 3, 3, 0); n != 0 || !ok {
		t.Error("its own place is no image by a reflection", n, ok)
	}
}

// Promise 4: images told by how far they are from a seer.
func TestNearestAndFarthest(t *testing.T) {
	inCorridors(func(wide int, at int) {
		for _, seer := range []int{0, 1, wide / 3, wide / 2, wide - 1, wide} {
			var nearest, fars []int
			for far := 0; len(fars) < 40; far++ {
				if isImage(wide, at, seer-far) {
					nearest, fars = append(nearest, seer-far), append(fars, far)
				}
				if far > 0 && isImage(wide, at, seer+far) {
					nearest, fars = append(nearest, seer+far), append(fars, far)
				}
			}
			if place, ok := impl.NearestImage(wide, at, seer); place != nearest[0] || !ok {
				t.Fatal(wide, at, seer, place, ok, "instead of", nearest[0])
			}
			for many := 1; many <= 40; many++ {
				if far, ok := impl.FarthestOf(wide, at, seer, many); far != fars[many-1] || !ok {
					t.Fatal(wide, at, seer, many, far, ok, "instead of", fars[many-1])
				}
			}
		}
		for _, n := range mirrorNumbers {
			if n < 0 || n > wide {
				if place, ok := impl.NearestImage(wide, at, n); place != 0 || ok {
					t.Fatal("no seer", wide, at, n, place, ok)
				}
				if far, ok := impl.FarthestOf(wide, at, n, 3); far != 0 || ok {
					t.Fatal("no seer", wide, at, n, far, ok)
				}
			}
			if n < 1 || n > 40 {
				if far, ok := impl.FarthestOf(wide, at, 1, n); far != 0 || ok {
					t.Fatal("no number", wide, at, n, far, ok)
				}
			}
		}
	})
	noCorridors(func(wide int, at int) {
		if place, ok := impl.NearestImage(wide, at, 0); place != 0 || ok {
			t.Fatal("no corridor", wide, at, place, ok)
		}
		if far, ok := impl.FarthestOf(wide, at, 0, 1); far != 0 || ok {
			t.Fatal("no corridor", wide, at, far, ok)
		}
	})
	for _, c := range []struct{ wide, at, seer, want int }{
		{10, 3, 7, -3}, {10, 3, 8, 17}, {10, 5, 5, -5}, {10, 0, 0, 0}, {10, 0, 10, 0}, {10, 10, 10, 10}, {10, 10, 0, -10}, {1, 0, 1, 0}, {1, 1, 0, -1},
		{500, 250, 250, -250}, {500, 250, 251, 750}, {500, 500, 1, 500}, {500, 500, 0, -500},
	} {
		if place, ok := impl.NearestImage(c.wide, c.at, c.seer); place != c.want || !ok {
			t.Error(c, place, ok)
		}
	}
}

// degreesOfWedge tells by how many reflections, 0 for its own place, something in a wedge seems to be at degrees: -1 if it never does.
func degreesOfWedge(angle int, place int) [360]int {
	var steps [360]int
	for k := range steps {
		steps[k] = -1
	}
	steps[place] = 0
	now := []int{place}
	for count := 1; len(now) > 0; count++ {
		var next []int
		for _, x := range now {
			for _, y := range []int{(360 - x) % 360, (2*angle + 360 - x) % 360} {
				if steps[y] < 0 {
					steps[y] = count
					next = append(next, y)
				}
			}
		}
		now = next
	}
	return steps
}

// isWedgeAngle tells whether an angle is 180 / n for a whole n of at least 2.
func isWedgeAngle(angle int) bool {
	for n := 2; n <= 180; n++ {
		if angle*n == 180 && angle > 0 && angle <= 90 {
			return true
		}
	}
	return false
}

// Promise 4: the images of wedges are all but one of the parts of a round.
func TestWedges(t *testing.T) {
	wedges := 0
	for angle := -2; angle <= 400; angle++ {
		for place := -2; place <= 95; place++ {
			if !isWedgeAngle(angle) || place <= 0 || place >= angle {
				checkNoWedge(t, angle, place)
				continue
			}
			wedges++
			checkWedge(t, angle, place)
		}
	}
	if wedges != 89+59+44+35+29+19+17+14+11+9+8+5+4+3+2+1 {
		t.Error("wedges", wedges)
	}
}

func checkWedge(t *testing.T, angle int, place int) {
	t.Helper()
	steps := degreesOfWedge(angle, place)
	var want []int
	for x, n := range steps {
		if n > 0 {
			want = append(want, x)
		}
		if got, ok := impl.WedgeSteps(angle, place, x); got != max(n, 0) || ok != (n > 0) {
			t.Fatal(angle, place, x, "steps", got, ok, "instead of", n)
		}
	}
	if l, ok := impl.WedgeImages(angle, place); !ok || !reflect.DeepEqual(l, want) {
		t.Fatal(angle, place, l, ok, "instead of", want)
	}
	if n, ok := impl.CountWedge(angle, place); n != len(want) || (n+1)*angle != 360 || !ok {
		t.Fatal(angle, place, "count", n, ok)
	}
	// Each part of the round has one of them, or the thing itself.
	parts := map[int]bool{place / angle: true}
	for _, x := range want {
		parts[x/angle] = true
	}
	if len(parts)*angle != 360 {
		t.Fatal(angle, place, "parts", len(parts))
	}
	for _, x := range append([]int{place + 360, place - 360, want[0] + 360, want[0] - 360, -place}, mirrorNumbers...) {
		if x >= 0 && x <= 359 {
			continue
		}
		if got, ok := impl.WedgeSteps(angle, place, x); got != 0 || ok {
			t.Fatal(angle, place, x, "steps", got, ok)
		}
	}
}

func checkNoWedge(t *testing.T, angle int, place int) {
	t.Helper()
	if l, ok := impl.WedgeImages(angle, place); len(l) != 0 || ok {
		t.Fatal("no wedge", angle, place, l, ok)
	}
	if n, ok := impl.CountWedge(angle, place); n != 0 || ok {
		t.Fatal("no wedge", angle, place, n, ok)
	}
	for _, image := range []int{0, place, -place, 180, 340, 359, 2*angle - place} {
		if n, ok := impl.WedgeSteps(angle, place, image); n != 0 || ok {
			t.Fatal("no wedge", angle, place, image, n, ok)
		}
	}
}

func TestNoWedges(t *testing.T) {
	for _, n := range mirrorNumbers {
		if n < 0 || n > 90 {
			checkNoWedge(t, n, 1)
			checkNoWedge(t, n, 20)
			checkNoWedge(t, n, n)
			checkNoWedge(t, n, n-1)
			checkNoWedge(t, 90, n)
			checkNoWedge(t, 2, n)
		}
	}
	checkNoWedge(t, 180, 20) // 180 / n for 1 only
	checkNoWedge(t, 120, 20)
	checkNoWedge(t, 1, 0)
	checkNoWedge(t, 1, 1)
	checkNoWedge(t, 50, 20)
	checkNoWedge(t, 40, 20) // a part of the round, but not of half of it
	checkNoWedge(t, 60, 60)
	checkNoWedge(t, 60, 0)
}

// anglesByPlaces tells, for a number of images, the angles of all wedges in which something at some place has so many.
func anglesByPlaces() map[int][]int {
	angles := map[int][]int{}
	for angle := 1; angle <= 90; angle++ {
		counts := map[int]bool{}
		for place := 1; isWedgeAngle(angle) && place < angle; place++ {
			images := 0
			for _, n := range degreesOfWedge(angle, place) {
				if n > 0 {
					images++
				}
			}
			counts[images] = true
		}
		for images := range counts {
			angles[images] = append(angles[images], angle)
		}
	}
	return angles
}

func TestAnglesFor(t *testing.T) {
	angles := anglesByPlaces()
	if len(angles) != 16 { // 180 has 18 divisors: 180 degrees are no wedge, and in 1 degree is nothing
		t.Error("angles", len(angles))
	}
	for images := 1; images <= 359; images++ {
		l, ok := impl.AnglesFor(images)
		if want := angles[images]; !ok || len(l) != len(want) || len(l) > 1 || len(l) == 1 && l[0] != want[0] {
			t.Fatal(images, l, ok, "instead of", want)
		}
		for _, angle := range l {
			for place := 1; place < angle; place++ {
				if n, ok := impl.CountWedge(angle, place); n != images || !ok {
					t.Fatal(images, angle, place, "count", n, ok)
				}
			}
		}
	}
	for _, images := range mirrorNumbers {
		if images >= 1 && images <= 359 {
			continue
		}
		if l, ok := impl.AnglesFor(images); len(l) != 0 || ok {
			t.Error("no number", images, l, ok)
		}
	}
	for _, c := range [][2]int{{3, 90}, {5, 60}, {119, 3}, {179, 2}} {
		if l, ok := impl.AnglesFor(c[0]); !ok || !reflect.DeepEqual(l, []int{c[1]}) {
			t.Error(c, l, ok)
		}
	}
	// 180, 120, 72 and 40 degrees are no wedges, 358 images are of no angle, and in a wedge of 1 degree is no place for something to have 359.
	for _, images := range []int{1, 2, 4, 8, 358, 359} {
		if l, ok := impl.AnglesFor(images); !ok || len(l) != 0 {
			t.Error(images, l, ok)
		}
	}
}

// persons calls check for persons short and tall, with eyes low and high.
func persons(check func(tall int, eyes int)) {
	for tall := 2; tall <= 8; tall++ {
		for eyes := 1; eyes <= tall; eyes++ {
			check(tall, eyes)
		}
	}
	for _, tall := range []int{20, 21, 170, 299, 300} {
		for _, eyes := range []int{1, 2, 3, tall / 2, tall - 11, tall - 1, tall} {
			check(tall, eyes)
		}
	}
}

func noPersons(check func(tall int, eyes int)) {
	for _, n := range mirrorNumbers {
		if n < 2 || n > 300 {
			check(n, 1)
			check(n, n)
			check(n, n-1)
			check(n, 2)
		}
		if n < 1 || n > 170 {
			check(170, n)
		}
		if n < 1 || n > 300 {
			check(300, n)
		}
	}
	check(170, 171)
	check(2, 3)
	check(1, 1)
}

// Promise 4 for people: a height is seen where the straight way from the eyes to its image, as far behind the mirror, comes through it.
func TestMirrorsForPersons(t *testing.T) {
	persons(func(tall int, eyes int) {
		a, b, c, d, ok := impl.MirrorFor(tall, eyes)
		begin := toldRat(t, "begin", a, b, ok)
		end := toldRat(t, "end", c, d, ok)
		sameRat(t, [2]int{tall, eyes}, begin, rat(eyes, 2))
		sameRat(t, [2]int{tall, eyes}, end, rat(tall+eyes, 2))
		// At whatever distance: with that of the mirror as one of both points.
		for _, far := range []int{1, 7, 500} {
			num, den, ok := impl.LookedAt([]int{far, eyes}, []int{far, tall})
			sameRat(t, tall, end, toldRat(t, "looked at", num, den, ok))
		}
		for low := 0; low < 300; low++ {
			for high := low + 1; high <= 300; high++ {
				if tall > 8 && low%7 > 2 && high%11 > 2 && low != high-1 && high < 299 {
					continue
				}
				want := rat(low, 1).Cmp(begin) <= 0 && rat(high, 1).Cmp(end) >= 0
				if all, ok := impl.CanSeeAll(tall, eyes, low, high); all != want || !ok {
					t.Fatal(tall, eyes, low, high, all, ok)
				}
				if tall <= 8 && high > 20 && high < 299 {
					high = 298
				}
			}
		}
	})
	noPersons(func(tall int, eyes int) {
		if a, b, c, d, ok := impl.MirrorFor(tall, eyes); a != 0 || b != 0 || c != 0 || d != 0 || ok {
			t.Fatal("no person", tall, eyes, a, b, c, d, ok)
		}
		if all, ok := impl.CanSeeAll(tall, eyes, 0, 300); all || ok {
			t.Fatal("no person", tall, eyes, all, ok)
		}
		failsWithZeros(t, "no person", func() (int, int, bool) { return impl.SeenOfPerson(tall, eyes, 0, 300) })
	})
}

// Promise 4 for people: what is seen is from the lowest to the greatest height that is looked at in the mirror.
func TestSeenOfPersons(t *testing.T) {
	check := func(tall int, eyes int, low int, high int) {
		t.Helper()
		lowest, greatest := -1, -1
		for height := 0; height <= tall; height++ {
			if height+eyes >= 2*low && height+eyes <= 2*high {
				if lowest < 0 {
					lowest = height
				}
				greatest = height
			}
		}
		a, b, ok := impl.SeenOfPerson(tall, eyes, low, high)
		if lowest < 0 && (a != 0 || b != 0 || ok) || lowest >= 0 && (a != lowest || b != greatest || !ok) {
			t.Fatal(tall, eyes, low, high, a, b, ok, "instead of", lowest, greatest)
		}
		all, _ := impl.CanSeeAll(tall, eyes, low, high)
		if all != (lowest == 0 && greatest == tall) {
			t.Fatal(tall, eyes, low, high, "all", all)
		}
	}
	persons(func(tall int, eyes int) {
		for low := range 300 {
			for _, high := range []int{low + 1, low + 2, (low + 301) / 2, 300} {
				if high > low && high <= 300 {
					check(tall, eyes, low, high)
				}
			}
		}
		for high := 1; high <= 300; high++ {
			check(tall, eyes, 0, high)
		}
	})
	for _, c := range []struct {
		tall, eyes, low, high int
		lowest, greatest      int
		ok                    bool
	}{
		{170, 160, 80, 165, 0, 170, true},
		{170, 160, 81, 165, 2, 170, true},
		{170, 160, 80, 164, 0, 168, true},
		{170, 160, 0, 300, 0, 170, true},
		{170, 160, 0, 80, 0, 0, true}, // the feet only
		{170, 160, 0, 79, 0, 0, false},
		{170, 160, 165, 300, 170, 170, true}, // the top only
		{170, 160, 166, 300, 0, 0, false},
		{170, 160, 100, 101, 40, 42, true},
		{2, 1, 0, 1, 0, 1, true},
		{300, 300, 299, 300, 298, 300, true},
		{300, 300, 149, 150, 0, 0, true},
	} {
		if a, b, ok := impl.SeenOfPerson(c.tall, c.eyes, c.low, c.high); a != c.lowest || b != c.greatest || ok != c.ok {
			t.Error(c, a, b, ok)
		}
	}
}

func TestNoMirrors(t *testing.T) {
	check := func(low int, high int) {
		t.Helper()
		if all, ok := impl.CanSeeAll(170, 160, low, high); all || ok {
			t.Error("no mirror", low, high, all, ok)
		}
		if all, ok := impl.CanSeeAll(2, 1, low, high); all || ok {
			t.Error("no mirror", low, high, all, ok)
		}
		failsWithZeros(t, [2]int{low, high}, func() (int, int, bool) { return impl.SeenOfPerson(170, 160, low, high) })
		failsWithZeros(t, [2]int{low, high}, func() (int, int, bool) { return impl.SeenOfPerson(300, 300, low, high) })
	}
	for _, n := range mirrorNumbers {
		check(n, n)
		if n < 0 || n > 300 {
			check(n, 165)
			check(80, n)
			check(0, n)
			check(n, 300)
		}
	}
	check(80, 80)
	check(165, 80)
	check(100, 99)
	check(300, 300)
	check(0, 0)
	check(-1, 0)
	check(300, 301)
	check(80, 301)
}

// lookedAt is how far up the straight way from a point to the image of another one, as far behind the mirror, comes through it.
func lookedAt(a []int, b []int) *big.Rat {
	part := rat(a[0], a[0]+b[0])
	return add(rat(a[1], 1), mul(part, rat(b[1]-a[1], 1)))
}

// Promise 4 for points: what is looked at is on the straight way to the image.
func TestLookedAt(t *testing.T) {
	for _, a := range samplePoints() {
		for _, b := range samplePoints() {
			look := lookedAt(a, b)
			sameRat(t, [2][]int{a, b}, told(t, a, func() (int, int, bool) { return impl.LookedAt(a, b) }), look)
			sameRat(t, [2][]int{b, a}, told(t, b, func() (int, int, bool) { return impl.LookedAt(b, a) }), look)
			square := (a[0]+b[0])*(a[0]+b[0]) + (a[1]-b[1])*(a[1]-b[1])
			if n, ok := impl.LookSquare(a, b); n != square || !ok {
				t.Fatal(a, b, "square", n, ok, "instead of", square)
			}
			whole := int(new(big.Int).Div(look.Num(), look.Denom()).Int64())
			for _, low := range []int{0, whole - 1, whole, whole + 1, 500} {
				for _, high := range []int{0, whole - 1, whole, whole + 1, 500} {
					if low < 0 || low > high || high > 500 {
						continue
					}
					want := look.Cmp(rat(low, 1)) >= 0 && look.Cmp(rat(high, 1)) <= 0
					if sees, ok := impl.SeesIn(a, b, low, high); sees != want || !ok {
						t.Fatal(a, b, low, high, sees, ok)
					}
				}
			}
		}
	}
}

func TestNoPoints(t *testing.T) {
	good := []int{2, 1}
	for _, p := range noPoints() {
		for _, pair := range [][2][]int{{p, good}, {good, p}, {p, p}} {
			a, b := pair[0], pair[1]
			failsWithZeros(t, pair, func() (int, int, bool) { return impl.LookedAt(a, b) })
			if n, ok := impl.LookSquare(a, b); n != 0 || ok {
				t.Error("no points", pair, n, ok)
			}
			if sees, ok := impl.SeesIn(a, b, 0, 500); sees || ok {
				t.Error("no points", pair, sees, ok)
			}
			list := [][]int{good, b, good}
			if l, ok := impl.SeenIn(a, list, 0, 500); len(l) != 0 || ok {
				t.Error("no points", a, list, l, ok)
			}
			failsWithZeros(t, pair, func() (int, int, bool) { return impl.LeastMirrorFor(a, list) })
		}
		if l, ok := impl.SeenIn(p, nil, 0, 500); len(l) != 0 || ok {
			t.Error("no point", p, l, ok)
		}
		failsWithZeros(t, p, func() (int, int, bool) { return impl.LeastMirrorFor(p, nil) })
		failsWithZeros(t, p, func() (int, int, bool) { return impl.LeastMirrorFor(good, [][]int{good, good, p}) })
	}
}

func TestNoParts(t *testing.T) {
	a, b := []int{2, 1}, []int{4, 7}
	check := func(low int, high int) {
		t.Helper()
		if sees, ok := impl.SeesIn(a, b, low, high); sees || ok {
			t.Error("no part", low, high, sees, ok)
		}
		if l, ok := impl.SeenIn(a, [][]int{b}, low, high); len(l) != 0 || ok {
			t.Error("no part", low, high, l, ok)
		}
		if l, ok := impl.SeenIn(a, nil, low, high); len(l) != 0 || ok {
			t.Error("no part", low, high, l, ok)
		}
	}
	for _, n := range mirrorNumbers {
		if n < 0 || n > 500 {
			check(n, n)
			check(n, 3)
			check(3, n)
			check(0, n)
			check(n, 500)
		}
	}
	check(4, 3)
	check(500, 499)
	check(1, 0)
	check(math.MaxInt, math.MinInt)
}

// rowsOfPoints are lists of points, each with the point from which they are looked at.
func rowsOfPoints() ([][]int, [][][]int) {
	all := samplePoints()
	var from [][]int
	var rows [][][]int
	for k, a := range all {
		var row [][]int
		for n := range k%10 + 1 {
			row = append(row, all[(7*k+n*(k+13))%len(all)])
		}
		from, rows = append(from, a), append(rows, row)
	}
	return from, rows
}

// Promise 4 for points: those are seen whose places are looked at in the part of the mirror.
func TestSeenIn(t *testing.T) {
	from, rows := rowsOfPoints()
	for k, a := range from {
		for low := 0; low <= 500; low += 5 {
			for high := low; high <= 500; high += 45 {
				var want []int
				for n, b := range rows[k] {
					if look := lookedAt(a, b); look.Cmp(rat(low, 1)) >= 0 && look.Cmp(rat(high, 1)) <= 0 {
						want = append(want, n)
					}
				}
				if l, ok := impl.SeenIn(a, rows[k], low, high); !ok || len(l) != len(want) || len(l) > 0 && !reflect.DeepEqual(l, want) {
					t.Fatal(a, rows[k], low, high, l, ok, "instead of", want)
				}
			}
		}
	}
	a := []int{2, 1}
	row := [][]int{{4, 7}, {2, 5}, {4, 10}, {4, 7}, {2, 1}} // looked at at 3, 3, 4, 3 and 1
	for _, c := range []struct {
		low, high int
		want      []int
	}{
		{3, 3, []int{0, 1, 3}}, {0, 2, []int{4}}, {4, 4, []int{2}}, {0, 500, []int{0, 1, 2, 3, 4}}, {1, 3, []int{0, 1, 3, 4}}, {5, 500, nil}, {0, 0, nil}, {2, 2, nil},
	} {
		if l, ok := impl.SeenIn(a, row, c.low, c.high); !ok || len(l) != len(c.want) || len(l) > 0 && !reflect.DeepEqual(l, c.want) {
			t.Error(c, l, ok)
		}
	}
}

// Promise 4 for points: a mirror from begin to end shows all, and none that begins or ends one nearer does.
func TestLeastMirrorFor(t *testing.T) {
	from, rows := rowsOfPoints()
	for k, a := range from {
		begin, end, ok := impl.LeastMirrorFor(a, rows[k])
		if !ok || begin < 0 || end > 500 || begin > end {
			t.Fatal(a, rows[k], begin, end, ok)
		}
		begins, ends := 0, 0
		for _, b := range rows[k] {
			look := lookedAt(a, b)
			if look.Cmp(rat(begin, 1)) < 0 || look.Cmp(rat(end, 1)) > 0 {
				t.Fatal(a, b, look, "is not in", begin, end)
			}
			if look.Cmp(rat(begin+1, 1)) < 0 {
				begins++
			}
			if look.Cmp(rat(end-1, 1)) > 0 {
				ends++
			}
		}
		if begins == 0 || ends == 0 {
			t.Fatal(a, rows[k], begin, end, "is greater than it has to be")
		}
	}
	for _, c := range []struct {
		a          []int
		list       [][]int
		begin, end int
	}{
		{[]int{2, 1}, [][]int{{4, 7}}, 3, 3},
		{[]int{2, 1}, [][]int{{4, 8}}, 3, 4},
		{[]int{2, 1}, [][]int{{4, 8}, {4, 7}, {2, 1}}, 1, 4},
		{[]int{500, 500}, [][]int{{500, 500}}, 500, 500},
		{[]int{500, 500}, [][]int{{500, 499}}, 499, 500},
		{[]int{1, 1}, [][]int{{1, 1}}, 1, 1},
		{[]int{1, 1}, [][]int{{500, 500}}, 1, 2},
		{[]int{500, 1}, [][]int{{1, 500}}, 499, 500},
		{[]int{500, 1}, [][]int{{1, 500}, {1, 1}}, 1, 500},
	} {
		if begin, end, ok := impl.LeastMirrorFor(c.a, c.list); begin != c.begin || end != c.end || !ok {
			t.Error(c, begin, end, ok)
		}
	}
}

// Lists of 10 points are met exactly; 11 are too many, and none are enough for SeenIn only.
func TestListsOfPoints(t *testing.T) {
	a := []int{2, 1}
	var list [][]int
	for k := range 12 {
		list = append(list, []int{4, 7 + k})
	}
	if l, ok := impl.SeenIn(a, list[:10], 3, 5); !ok || !reflect.DeepEqual(l, []int{0, 1, 2, 3, 4, 5, 6}) {
		t.Error("ten", l, ok)
	}
	if begin, end, ok := impl.LeastMirrorFor(a, list[:10]); begin != 3 || end != 6 || !ok {
		t.Error("ten", begin, end, ok)
	}
	for _, many := range []int{11, 12} {
		if l, ok := impl.SeenIn(a, list[:many], 3, 5); len(l) != 0 || ok {
			t.Error(many, l, ok)
		}
		failsWithZeros(t, many, func() (int, int, bool) { return impl.LeastMirrorFor(a, list[:many]) })
	}
	for _, none := range [][][]int{nil, {}, list[:0]} {
		if l, ok := impl.SeenIn(a, none, 3, 5); len(l) != 0 || !ok {
			t.Error("none", l, ok)
		}
		failsWithZeros(t, none, func() (int, int, bool) { return impl.LeastMirrorFor(a, none) })
	}
	if l, ok := impl.SeenIn(a, make([][]int, 1<<20), 3, 5); len(l) != 0 || ok {
		t.Error("very many", l, ok)
	}
}

// Promise 11: no number makes a call panic, in whatever place it is.
func TestMirrorCallsNeverPanic(t *testing.T) {
	calm := func(...any) {}
	numbers := []int{math.MinInt, -1, 0, 1, 2, 40, 41, 60, 300, 301, 359, 360, 500, 501, 10001, math.MaxInt - 1, math.MaxInt}
	for _, a := range numbers {
		calm(impl.AnglesFor(a))
		for _, b := range numbers {
			calm(impl.ImageAfter(a, b, "lrlr"))
			calm(impl.WedgeImages(a, b))
			calm(impl.CountWedge(a, b))
			calm(impl.MirrorFor(a, b))
			calm(impl.LeastMirrorFor([]int{a, b}, [][]int{{b, a}, {1, 1}}))
			for _, c := range numbers {
				calm(impl.ImagesUpTo(a, b, c))
				calm(impl.WordOfImage(a, b, c))
				calm(impl.NearestImage(a, b, c))
				calm(impl.WedgeSteps(a, b, c))
				for _, d := range numbers {
					calm(impl.CountNear(a, b, c, d))
					calm(impl.FarthestOf(a, b, c, d))
					calm(impl.CanSeeAll(a, b, c, d))
					calm(impl.SeenOfPerson(a, b, c, d))
					calm(impl.LookedAt([]int{a, b}, []int{c, d}))
					calm(impl.LookSquare([]int{a, b}, []int{c, d}))
					calm(impl.SeesIn([]int{a, b}, []int{c, d}, a, d))
					calm(impl.SeenIn([]int{a, b}, [][]int{{c, d}, {d, a}}, b, c))
				}
			}
		}
	}
}

// Promise 11: points and lists of them are not modified, nor is what lies behind them in the same memory.
func TestPointsAreNotModified(t *testing.T) {
	room := [][]int{{2, 1, -7, -8}, {4, 7, -7, -8}, {2, 5, -7, -8}, {4, 10, -7, -8}, {-1, -2, -3, -4}, nil}
	a := room[0][:2]
	list := make([][]int, len(room))
	for k := range room {
		list[k] = room[k]
		if k < 4 {
			list[k] = room[k][:2]
		}
	}
	before := [][]int{{2, 1, -7, -8}, {4, 7, -7, -8}, {2, 5, -7, -8}, {4, 10, -7, -8}, {-1, -2, -3, -4}, nil}
	impl.LookedAt(a, list[1])
	impl.LookSquare(a, list[1])
	impl.SeesIn(a, list[1], 0, 500)
	if l, ok := impl.SeenIn(a, list[1:4], 0, 3); !ok || !reflect.DeepEqual(l, []int{0, 1}) {
		t.Error("seen", l, ok)
	}
	if begin, end, ok := impl.LeastMirrorFor(a, list[1:4]); begin != 3 || end != 4 || !ok {
		t.Error("least mirror", begin, end, ok)
	}
	impl.SeenIn(a, list, 0, 3)
	impl.LeastMirrorFor(a, list)
	if !reflect.DeepEqual(room, before) {
		t.Error("points are modified", room)
	}
	for k := range list {
		if k < 4 && (len(list[k]) != 2 || &list[k][0] != &room[k][0]) || k == 4 && len(list[k]) != 4 || k == 5 && list[k] != nil {
			t.Error("the list is modified", list)
		}
	}
}

// Results are new memory: changing one does not change another call's result.
func TestMirrorResultsAreNew(t *testing.T) {
	for _, call := range []func() ([]int, bool){
		func() ([]int, bool) { return impl.ImagesUpTo(10, 3, 40) },
		func() ([]int, bool) { return impl.WedgeImages(2, 1) },
		func() ([]int, bool) { return impl.AnglesFor(5) },
		func() ([]int, bool) {
			return impl.SeenIn([]int{2, 1}, [][]int{{4, 7}, {4, 8}, {4, 9}}, 0, 500)
		},
	} {
		want, _ := call()
		spoiled, _ := call()
		for k := range spoiled {
			spoiled[k] = -1000
		}
		_ = append(spoiled, -1000)
		if again, ok := call(); !ok || len(again) == 0 || !reflect.DeepEqual(again, want) || reflect.DeepEqual(spoiled, want) {
			t.Error("a result is kept between calls", again, want)
		}
	}
}

// The images come from another goroutine: none of them goes on behind a call, and calls side by side do not disturb each other.
func TestImagesSideBySide(t *testing.T) {
	before := runtime.NumGoroutine()
	var group sync.WaitGroup
	for range 16 {
		group.Go(func() {
			for at := 0; at <= 60; at++ {
				if l, ok := impl.ImagesUpTo(60, at, 40); !ok || !slices.Equal(l, imagesByFormula(60, at, 40)) {
					t.Error("images", at, l, ok)
				}
				if word, ok := impl.WordOfImage(60, at, -at); at > 0 && (word != "l" || !ok) {
					t.Error("word", at, word, ok)
				}
				if n, ok := impl.WedgeSteps(60, 20, 220); n != 3 || !ok {
					t.Error("steps", n, ok)
				}
			}
		})
	}
	group.Wait()
	checkNoneGoesOn(t, before)
}

// checkNoneGoesOn checks that there are no more goroutines than before, as soon as those that have ended are gone.
func checkNoneGoesOn(t *testing.T, before int) {
	t.Helper()
	for range 1000 {
		if runtime.NumGoroutine() <= before {
			return
		}
		time.Sleep(time.Millisecond)
	}
	t.Error("goroutines go on:", runtime.NumGoroutine()-before)
}
