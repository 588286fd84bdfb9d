package tests

import (
	"fmt"
	"math"
	"regexp"
	"slices"
	"strconv"
	"strings"
	"testing"

	"loop.example/g01351/impl"
)

// consoleNumbers are ints at and around every limit of what a desk has, and at the ends of what an int can be.
var consoleNumbers = []int{
	math.MinInt, math.MinInt + 1, -1 << 32, -51, -50, -1, 0, 1, 2, 3, 6, 50, 51, 100, 101, 199, 200, 201,
	500, 501, 1000, 1001, 2000, 2001, 1 << 31, 1 << 32, 1<<32 + 1, 1 << 62, math.MaxInt - 1, math.MaxInt,
}

// lineNumbers are numbers at and around every limit that a line's function has, and the greatest ones of a line.
var lineNumbers = []int{0, 1, 2, 3, 4, 5, 6, 11, 12, 14, 15, 20, 40, 41, 60, 61, 100, 199, 200, 201, 500, 501, 944, 945, 1000, 1001, 2000, 2001, 999999}

// consoleLine is a line of the chapter's table: a sign for each word behind the first one, and what its functions tell of a desk, which they may change.
type consoleLine struct {
	words string
	does  func(d *impl.Desk, n []int, text string) (string, bool)
}

func oneTold(n int, ok bool) (string, bool) {
	return strconv.Itoa(n), ok
}

func fractionTold(num int, den int, ok bool) (string, bool) {
	return fmt.Sprintf("%d/%d", num, den), ok
}

func bothTold(a int, b int, ok bool) (string, bool) {
	return fmt.Sprintf("%d %d", a, b), ok
}

func listTold(list []int, ok bool) (string, bool) {
	if len(list) == 0 {
		return "-", ok
	}
	return strings.ReplaceAll(strings.Trim(fmt.Sprint(list), "[]"), " ", ","), ok
}

// consoleTable is the chapter's table.
var consoleTable = map[string]consoleLine{
	"ladders": {"L", func(d *impl.Desk, n []int, text string) (string, bool) {
		d.Ladders, _ = impl.ParseLadders(text)
		return text, true
	}},
	"walker": {"W", func(d *impl.Desk, n []int, text string) (string, bool) {
		d.Walker, _ = impl.ParseWalker(text)
		return text, true
	}},
	"island": {"I", func(d *impl.Desk, n []int, text string) (string, bool) {
		d.Island, _ = impl.ParseIsland(text)
		return text, true
	}},
	"poles": {"P", func(d *impl.Desk, n []int, text string) (string, bool) {
		d.Poles, _ = impl.ParsePoles(text)
		return text, true
	}},
	"lamp": {"N", func(d *impl.Desk, n []int, text string) (string, bool) {
		d.Lamp = n[0]
		return oneTold(n[0], true)
	}},
	"wider": {"N", func(d *impl.Desk, n []int, text string) (reply string, ok bool) {
		d.Ladders, ok = impl.MoveWall(d.Ladders, n[0])
		reply, _ = impl.LaddersText(d.Ladders)
		return reply, ok
	}},
	"mirror": {"", func(d *impl.Desk, n []int, text string) (reply string, ok bool) {
		d.Ladders, ok = impl.MirrorLadders(d.Ladders)
		reply, _ = impl.LaddersText(d.Ladders)
		return reply, ok
	}},
	"turn": {"", func(d *impl.Desk, n []int, text string) (reply string, ok bool) {
		d.Walker, ok = impl.TurnWalker(d.Lamp, d.Walker)
		reply, _ = impl.WalkerText(d.Walker)
		return reply, ok
	}},
	"times": {"N", func(d *impl.Desk, n []int, text string) (reply string, ok bool) {
		d.Island, ok = impl.TimesIsland(d.Island, n[0])
		reply, _ = impl.IslandText(d.Island)
		return reply, ok
	}},
	"show":    asks(func(d impl.Desk) (string, bool) { return impl.LaddersText(d.Ladders) }),
	"row":     asks(func(d impl.Desk) (string, bool) { return impl.PolesText(d.Poles) }),
	"who":     asks(func(d impl.Desk) (string, bool) { return impl.WalkerText(d.Walker) }),
	"isle":    asks(func(d impl.Desk) (string, bool) { return impl.IslandText(d.Island) }),
	"cross":   asks(func(d impl.Desk) (string, bool) { return fractionTold(impl.CrossHeight(d.Ladders)) }),
	"place":   asks(func(d impl.Desk) (string, bool) { return fractionTold(impl.CrossPlace(d.Ladders)) }),
	"squares": asks(func(d impl.Desk) (string, bool) { return bothTold(impl.SquaresOf(d.Ladders)) }),
	"long":    asks(func(d impl.Desk) (string, bool) { return bothTold(impl.LengthsOf(d.Ladders)) }),
	"far":     asks(func(d impl.Desk) (string, bool) { return fractionTold(impl.FarthestDark(d.Lamp, d.Poles)) }),
	"hidden":  asks(func(d impl.Desk) (string, bool) { return listTold(impl.HiddenPoles(d.Lamp, d.Poles)) }),
	"speed":   asks(func(d impl.Desk) (string, bool) { return fractionTold(impl.TipSpeed(d.Lamp, d.Walker)) }),
	"grow":    asks(func(d impl.Desk) (string, bool) { return fractionTold(impl.GrowSpeed(d.Lamp, d.Walker)) }),
	"high":    asks(func(d impl.Desk) (string, bool) { return fractionTold(impl.IslandHeight(d.Island)) }),
	"away":    asks(func(d impl.Desk) (string, bool) { return fractionTold(impl.IslandAway(d.Island)) }),
	"more":    asks(func(d impl.Desk) (string, bool) { return fractionTold(impl.HigherByStep(d.Island)) }),
	"pairs":   asksFor("N", func(d impl.Desk, n []int) (string, bool) { return oneTold(impl.CountPairs(n[0])) }),
	"shadow": asksFor("N", func(d impl.Desk, n []int) (string, bool) {
		return fractionTold(impl.ShadowLength(d.Lamp, poleTold(d, n[0])))
	}),
	"end": asksFor("N", func(d impl.Desk, n []int) (string, bool) {
		return fractionTold(impl.ShadowEnd(d.Lamp, poleTold(d, n[0])))
	}),
	"dark": asksFor("N", func(d impl.Desk, n []int) (string, bool) { return listTold(impl.DarkPlaces(d.Lamp, d.Poles, n[0])) }),
	"at":   asksFor("N", func(d impl.Desk, n []int) (string, bool) { return oneTold(impl.PlaceAt(d.Lamp, d.Walker, n[0])) }),
	"tip":  asksFor("N", func(d impl.Desk, n []int) (string, bool) { return fractionTold(impl.TipAt(d.Lamp, d.Walker, n[0])) }),
	"size": asksFor("N", func(d impl.Desk, n []int) (string, bool) { return fractionTold(impl.ShadowAt(d.Lamp, d.Walker, n[0])) }),
	"when": asksFor("N", func(d impl.Desk, n []int) (string, bool) {
		return fractionTold(impl.MinuteOfShadow(d.Lamp, d.Walker, n[0]))
	}),
	"wedge":  asksFor("NK", func(d impl.Desk, n []int) (string, bool) { return listTold(impl.WedgeImages(n[0], n[1])) }),
	"images": asksFor("NKM", func(d impl.Desk, n []int) (string, bool) { return listTold(impl.ImagesUpTo(n[0], n[1], n[2])) }),
	"tower":  asksFor("NKM", func(d impl.Desk, n []int) (string, bool) { return fractionTold(impl.TowerByShadow(n[0], n[1], n[2])) }),
	"sights": asksFor("NKM", func(d impl.Desk, n []int) (string, bool) {
		return fractionTold(impl.TowerByTwoSights(n[0], n[1], n[2]))
	}),
}

func asksFor(words string, ask func(d impl.Desk, n []int) (string, bool)) consoleLine {
	return consoleLine{words, func(d *impl.Desk, n []int, text string) (string, bool) { return ask(*d, n) }}
}

func asks(ask func(d impl.Desk) (string, bool)) consoleLine {
	return asksFor("", func(d impl.Desk, n []int) (string, bool) { return ask(d) })
}

// poleTold is a pole of a desk: one that is none, of which every call fails, if there are not so many.
func poleTold(d impl.Desk, k int) impl.Pole {
	if k >= len(d.Poles) {
		return impl.Pole{}
	}
	return d.Poles[k]
}

var isLineNumber = regexp.MustCompile(`^(0|[1-9][0-9]{0,5})$`)

// isWordOf tells whether a word is of the kind that a sign of the table names.
func isWordOf(sign rune, word string) (ok bool) {
	switch sign {
	case 'L':
		_, ok = impl.ParseLadders(word)
	case 'P':
		_, ok = impl.ParsePoles(word)
	case 'W':
		_, ok = impl.ParseWalker(word)
	case 'I':
		_, ok = impl.ParseIsland(word)
	default:
		ok = isLineNumber.MatchString(word)
	}
	return ok
}

// byTable is the desk behind a line, and its reply, as the chapter's table tells.
func byTable(d impl.Desk, line string) (impl.Desk, string) {
	name, rest, isCut := strings.Cut(line, " ")
	var words []string
	if isCut {
		words = strings.Split(rest, " ")
	}
	kind, ok := consoleTable[name]
	if !ok || len(words) != len(kind.words) {
		return d, "what"
	}
	var numbers []int
	for k, sign := range kind.words {
		if !isWordOf(sign, words[k]) {
			return d, "what"
		}
		n, _ := strconv.Atoi(words[k])
		numbers = append(numbers, n)
	}
	next := d
	reply, ok := kind.does(&next, numbers, rest)
	if !ok || !isDeskByLimits(next) {
		return d, "no"
	}
	return next, reply
}

func isDeskByLimits(d impl.Desk) bool {
	within := func(n int, least int, most int) bool { return n >= least && n <= most }
	l, w, i := d.Ladders, d.Walker, d.Island
	if min(l.Wide, l.Left, l.Right) < 1 || max(l.Wide, l.Left, l.Right) > 1000 || !within(d.Lamp, 2, 200) || !within(len(d.Poles), 1, 6) {
		return false
	}
	for k, p := range d.Poles {
		if !within(p.Place, 1, 500) || p.High < 1 || p.High >= d.Lamp || k > 0 && p.Place <= d.Poles[k-1].Place {
			return false
		}
	}
	isWalker := w.High >= 1 && w.High < d.Lamp && within(w.Place, 0, 500) && within(w.Speed, -50, 50)
	return isWalker && within(i.Staff, 1, 100) && within(i.Apart, 1, 2000) && i.First >= 1 && i.First < i.Second && i.Second <= 2000
}

func sameDesk(d impl.Desk, e impl.Desk) bool {
	return slices.Equal(d.Poles, e.Poles) && d.Ladders == e.Ladders && d.Lamp == e.Lamp && d.Walker == e.Walker && d.Island == e.Island
}

// deskOf is the desk with these texts, with blanks between them.
func deskOf(t *testing.T, texts string) impl.Desk {
	t.Helper()
	parts := strings.Split(texts, " ")
	lamp, _ := strconv.Atoi(parts[1])
	ladders, ok1 := impl.ParseLadders(parts[0])
	poles, ok2 := impl.ParsePoles(parts[2])
	walker, ok3 := impl.ParseWalker(parts[3])
	island, ok4 := impl.ParseIsland(parts[4])
	d := impl.Desk{Ladders: ladders, Lamp: lamp, Poles: poles, Walker: walker, Island: island}
	if !ok1 || !ok2 || !ok3 || !ok4 || !isDeskByLimits(d) {
		t.Fatal(texts, "is a desk")
	}
	return d
}

const firstDesk = "56:105/42 6 2|3,4|2,9|1 2@4+3 5|1000:123/127"

// sampleDesks are desks with all that they have at its limits, and in between.
func sampleDesks(t *testing.T) []impl.Desk {
	t.Helper()
	var all []impl.Desk
	for _, texts := range []string{
		firstDesk,
		"1:1/1 2 1|1 1@0+0 1|1:1/2",
		"1000:1000/1000 200 500|199 199@500+50 100|2000:1999/2000",
		"1000:1/1000 200 1|199,2|199,3|199,498|1,499|1,500|199 199@500-50 100|1:1/2000",
		"3:4/4 6 4|2,5|1 2@4-3 5|1000:123/124",
		"12:5/9 7 1|1,2|1,3|1,4|1,5|1,6|1 6@0+50 50|1000:999/1000",
		"4:6/3 3 7|2 1@10-2 2|3:1/3",
		"944:105/42 40 12|39,30|10,31|20 3@1-1 1|1:1/3",
		"57:105/42 100 60|50,119|1,120|1,121|1 50@60+0 33|7:1000/1999",
	} {
		all = append(all, deskOf(t, texts))
	}
	return all
}

// sampleLines are lines with every name and many words that fit it, or almost.
func sampleLines() []string {
	texts := map[rune][]string{
		'L': {"56:105/42", "1:1/1", "1000:1000/1000", "1001:1/1", "0:1/1", "1:1/0", "3:4/12", "3:4", "56:105/42/1", "6|3"},
		'P': {"2|3,4|2,9|1", "1|1", "500|199", "500|200", "500|201", "1|1,2|1,3|1,4|1,5|1,6|1", "1|1,2|1,3|1,4|1,5|1,6|1,7|1", "4|2,4|1", "1|5,2|6", "1|2", "0|1", "1|0", "1|1,", "5"},
		'W': {"2@4+3", "2@4-3", "1@0+0", "199@500+50", "199@500-50", "200@500+50", "5@1+1", "6@1+1", "0@1+1", "1@501+1", "1@1+51", "1@1-51", "1@1", "1@1-0"},
		'I': {"5|1000:123/127", "1|1:1/2", "100|2000:1999/2000", "101|1:1/2", "1|2001:1/2", "1|1:2/2", "1|1:2/1", "1|1:1/2001", "1|1:0/1", "1|1:1"},
	}
	var lines []string
	for name, kind := range consoleTable {
		switch kind.words {
		case "":
			lines = append(lines, name)
		case "N":
			for _, n := range lineNumbers {
				lines = append(lines, fmt.Sprint(name, " ", n))
			}
		case "NK":
			for _, n := range []int{0, 1, 2, 20, 36, 60, 70, 90, 91, 180, 999999} {
				for _, k := range []int{0, 1, 2, 19, 20, 35, 45, 59, 60, 89, 90, 999999} {
					lines = append(lines, fmt.Sprint(name, " ", n, " ", k))
				}
			}
		case "NKM":
			for _, n := range []int{0, 1, 2, 10, 100, 101, 500, 501, 2000, 2001, 999999} {
				for _, k := range []int{0, 1, 3, 5, 10, 11, 500, 2000, 2001, 999999} {
					for _, m := range []int{0, 1, 2, 12, 30, 40, 41, 2000, 2001, 999999} {
						lines = append(lines, fmt.Sprint(name, " ", n, " ", k, " ", m))
					}
				}
			}
		default:
			for _, all := range texts {
				for _, text := range all {
					lines = append(lines, name+" "+text)
				}
			}
		}
	}
	slices.Sort(lines)
	return lines
}

// checkLine checks the reply to a line on a desk, and the desk behind it.
func checkLine(t *testing.T, d impl.Desk, line string, want impl.Desk, reply string) {
	t.Helper()
	got, told, ok := impl.DeskLine(d, line)
	if !sameDesk(got, want) || told != reply || !ok {
		t.Fatalf("%.80q on %v: %v %.80q %v instead of %v %.80q", line, d, got, told, ok, want, reply)
	}
}

const consoleExample = "cross\nplace\nlong\npairs 2\nshadow 1\nend 2\nfar\ndark 12\nhidden\nimages 10 3 2\nwedge 60 20\nat 1\ntip 1\nsize 1\nspeed\nwhen 5\nturn\nspeed\nat 2\nlamp 3\npoles 1|1\nlamp 3\nlamp 2\nhigh\naway\nmore\ntower 2 3 30\nsights 2 5 12\nmirror\nwider 4\nlong\ntimes 2\nfly\n"

func TestConsoleExample(t *testing.T) {
	want := []string{"30/1", "40/1", "119 70", "2", "2/1", "54/5", "54/5", "3,4,5,6,10", "-", "-17,-3,17,23", "100,140,220,260,340", "7", "21/2", "7/2", "9/2", "2/1", "2@4-3", "-9/2", "no", "no", "1|1", "3", "no", "1255/1", "30750/1", "1250/3", "20/1", "4/1", "56:42/105", "60:42/105", "no", "10|2000:246/254", "what"}
	if got, ok := impl.RunScript(consoleExample); !slices.Equal(got, want) || !ok {
		t.Error("replies", got, ok)
	}
	// at 2, lamp 3, lamp 2, long and fly.
	if got, ok := impl.FailedLines(consoleExample); !slices.Equal(got, []int{19, 20, 23, 31, 33}) || !ok {
		t.Error("failed", got, ok)
	}
	if got, ok := impl.DeskAfter(consoleExample); !sameDesk(got, deskOf(t, "60:42/105 3 1|1 2@4-3 10|2000:246/254")) || !ok {
		t.Error("desk", got, ok)
	}
}

func TestFirstDesk(t *testing.T) {
	want := impl.Desk{Ladders: impl.Ladders{Wide: 56, Left: 105, Right: 42}, Lamp: 6, Poles: []impl.Pole{{Place: 2, High: 3}, {Place: 4, High: 2}, {Place: 9, High: 1}},
		Walker: impl.Walker{High: 2, Place: 4, Speed: 3}, Island: impl.Island{Staff: 5, Apart: 1000, First: 123, Second: 127}}
	if got := impl.FirstDesk(); !sameDesk(got, want) || !impl.IsDesk(got) {
		t.Error(got)
	}
	if !sameDesk(want, deskOf(t, firstDesk)) {
		t.Error("the desk with these texts", want)
	}
}

// deskLine is a line on a desk: the reply, and the texts of the desk behind it, none if it is as it was.
type deskLine struct {
	line, reply, behind string
}

// Every line of the chapter's table, on the first desk.
var linesOnFirstDesk = []deskLine{
	// Ladders.
	{"ladders 4:6/3", "4:6/3", "4:6/3 6 2|3,4|2,9|1 2@4+3 5|1000:123/127"},
	{"ladders 1000:1000/1000", "1000:1000/1000", "1000:1000/1000 6 2|3,4|2,9|1 2@4+3 5|1000:123/127"},
	{"ladders 56:105/42", "56:105/42", ""},
	{"ladders 1001:1/1", "what", ""},
	{"wider 4", "60:105/42", "60:105/42 6 2|3,4|2,9|1 2@4+3 5|1000:123/127"},
	{"wider 0", "56:105/42", ""},
	{"wider 944", "1000:105/42", "1000:105/42 6 2|3,4|2,9|1 2@4+3 5|1000:123/127"}, // just MaxWide
	{"wider 945", "no", ""},
	{"wider 1000", "no", ""},
	{"wider 1001", "no", ""},
	{"wider -4", "what", ""},
	{"mirror", "56:42/105", "56:42/105 6 2|3,4|2,9|1 2@4+3 5|1000:123/127"},
	{"show", "56:105/42", ""},
	{"cross", "30/1", ""},
	{"place", "40/1", ""},
	{"squares", "14161 4900", ""},
	{"long", "119 70", ""},
	{"pairs 1", "1", ""},
	{"pairs 2", "2", ""},
	{"pairs 200", "18", ""},
	{"pairs 0", "no", ""},
	{"pairs 201", "no", ""},
	// The lamp and the poles.
	{"lamp 6", "6", ""},
	{"lamp 4", "4", "56:105/42 4 2|3,4|2,9|1 2@4+3 5|1000:123/127"},
	{"lamp 200", "200", "56:105/42 200 2|3,4|2,9|1 2@4+3 5|1000:123/127"},
	{"lamp 201", "no", ""},
	{"lamp 3", "no", ""}, // as high as a pole
	{"lamp 2", "no", ""}, // as high as the walker, too
	{"lamp 1", "no", ""},
	{"lamp 0", "no", ""},
	{"lamp 999999", "no", ""},
	{"poles 1|1", "1|1", "56:105/42 6 1|1 2@4+3 5|1000:123/127"},
	{"poles 1|5,500|5", "1|5,500|5", "56:105/42 6 1|5,500|5 2@4+3 5|1000:123/127"},
	{"poles 1|1,2|1,3|1,4|1,5|1,6|1", "1|1,2|1,3|1,4|1,5|1,6|1", "56:105/42 6 1|1,2|1,3|1,4|1,5|1,6|1 2@4+3 5|1000:123/127"},
	{"poles 1|1,2|1,3|1,4|1,5|1,6|1,7|1", "what", ""},
	{"poles 1|6", "no", ""},
	{"poles 1|1,2|6", "no", ""},
	{"poles 1|200", "no", ""},
	{"poles 1|201", "what", ""},
	{"row", "2|3,4|2,9|1", ""},
	{"shadow 0", "2/1", ""},
	{"shadow 1", "2/1", ""},
	{"shadow 2", "9/5", ""},
	{"shadow 3", "no", ""},
	{"end 0", "4/1", ""},
	{"end 1", "6/1", ""},
	{"end 2", "54/5", ""},
	{"end 3", "no", ""},
	{"end 999999", "no", ""},
	{"far", "54/5", ""},
	{"hidden", "-", ""},
	{"dark 12", "3,4,5,6,10", ""},
	{"dark 500", "3,4,5,6,10", ""},
	{"dark 501", "no", ""},
	{"dark 3", "3", ""},
	{"dark 2", "-", ""},
	{"dark 0", "-", ""},
	// Mirrors.
	{"images 10 3 2", "-17,-3,17,23", ""},
	{"images 10 3 1", "-3,17", ""},
	{"images 10 3 0", "-", ""},
	{"images 10 0 1", "0,20", ""},
	{"images 10 11 2", "no", ""},
	{"images 0 0 2", "no", ""},
	{"images 501 3 2", "no", ""},
	{"images 10 3 41", "no", ""},
	{"wedge 60 20", "100,140,220,260,340", ""},
	{"wedge 90 45", "135,225,315", ""},
	{"wedge 90 90", "no", ""},
	{"wedge 90 0", "no", ""},
	{"wedge 70 20", "no", ""},
	// The walker.
	{"walker 5@0-50", "5@0-50", "56:105/42 6 2|3,4|2,9|1 5@0-50 5|1000:123/127"},
	{"walker 2@4+3", "2@4+3", ""},
	{"walker 6@4+3", "no", ""},
	{"walker 199@4+3", "no", ""},
	{"walker 200@4+3", "what", ""},
	{"turn", "2@4-3", "56:105/42 6 2|3,4|2,9|1 2@4-3 5|1000:123/127"},
	{"who", "2@4+3", ""},
	{"at 0", "4", ""},
	{"at 1", "7", ""},
	{"at 60", "184", ""},
	{"at 61", "no", ""},
	{"tip 0", "6/1", ""},
	{"tip 1", "21/2", ""},
	{"tip 60", "276/1", ""},
	{"tip 61", "no", ""},
	{"size 0", "2/1", ""},
	{"size 1", "7/2", ""},
	{"size 60", "92/1", ""},
	{"size 61", "no", ""},
	{"speed", "9/2", ""},
	{"grow", "3/2", ""},
	{"when 5", "2/1", ""},
	{"when 2", "0/1", ""},
	{"when 3", "2/3", ""},
	{"when 1", "no", ""},
	{"when 0", "no", ""},
	{"when 500", "332/1", ""},
	{"when 501", "no", ""},
	// The island.
	{"island 1|1:1/2", "1|1:1/2", "56:105/42 6 2|3,4|2,9|1 2@4+3 1|1:1/2"},
	{"island 5|1000:123/127", "5|1000:123/127", ""},
	{"island 5|1000:127/127", "what", ""},
	{"times 2", "10|2000:246/254", "56:105/42 6 2|3,4|2,9|1 2@4+3 10|2000:246/254"},
	{"times 1", "5|1000:123/127", ""},
	{"times 3", "no", ""},
	{"times 0", "no", ""},
	{"times 2001", "no", ""},
	{"isle", "5|1000:123/127", ""},
	{"high", "1255/1", ""},
	{"away", "30750/1", ""},
	{"more", "1250/3", ""},
	{"tower 2 3 30", "20/1", ""},
	{"tower 100 3 2000", "200000/3", ""},
	{"tower 101 3 30", "no", ""},
	{"tower 2 0 30", "no", ""},
	{"sights 2 5 12", "4/1", ""},
	{"sights 5 2 12", "no", ""},
	{"sights 5 5 12", "no", ""},
	// Anything else.
	{"fly", "what", ""},
}

func TestEveryLineOfTheTable(t *testing.T) {
	d := deskOf(t, firstDesk)
	named := map[string]bool{}
	for _, c := range linesOnFirstDesk {
		behind := d
		if c.behind != "" {
			behind = deskOf(t, c.behind)
		}
		checkLine(t, d, c.line, behind, c.reply)
		// A script of this line alone does the same.
		replies, ok := impl.RunScript(c.line + "\n")
		if !slices.Equal(replies, []string{c.reply}) || !ok {
			t.Error(c, replies, ok)
		}
		if after, ok := impl.DeskAfter(c.line + "\n"); !sameDesk(after, behind) || !ok {
			t.Error(c, after, ok)
		}
		isRefused := c.reply == "no" || c.reply == "what"
		if failed, ok := impl.FailedLines(c.line + "\n"); slices.Equal(failed, []int{1}) != isRefused || len(failed) > 1 || !ok {
			t.Error(c, failed, ok)
		}
		if c.reply != "what" {
			name, _, _ := strings.Cut(c.line, " ")
			named[name] = true
		}
	}
	for name := range consoleTable {
		if !named[name] {
			t.Error(name, "has no line here")
		}
	}
}

// Lines on other desks: replies that are less than 0 or 0, lists that are empty or not, and functions that fail for what the desk has.
func TestLinesOnOtherDesks(t *testing.T) {
	for _, c := range []struct {
		desk  string
		lines []deskLine
	}{
		{"57:105/42 6 4|2,5|1 2@4-3 5|1000:123/124", []deskLine{
			{"long", "no", ""}, {"squares", "14274 5013", ""}, {"cross", "30/1", ""}, {"place", "285/7", ""},
			{"hidden", "1", ""}, {"dark 7", "5,6", ""}, {"far", "6/1", ""}, {"shadow 1", "1/1", ""}, {"shadow 2", "no", ""},
			{"speed", "-9/2", ""}, {"grow", "-3/2", ""}, {"at 1", "1", ""}, {"at 2", "no", ""}, {"tip 2", "no", ""}, {"size 2", "no", ""}, {"when 0", "4/3", ""}, {"when 3", "no", ""},
			{"turn", "2@4+3", "57:105/42 6 4|2,5|1 2@4+3 5|1000:123/124"},
			{"high", "5005/1", ""}, {"away", "123000/1", ""}, {"more", "no", ""}, {"times 2", "10|2000:246/248", "57:105/42 6 4|2,5|1 2@4-3 10|2000:246/248"},
			{"wider 943", "1000:105/42", "1000:105/42 6 4|2,5|1 2@4-3 5|1000:123/124"}, {"wider 944", "no", ""},
			{"lamp 3", "3", "57:105/42 3 4|2,5|1 2@4-3 5|1000:123/124"}, {"lamp 2", "no", ""},
		}},
		// Somebody who stands.
		{"3:4/4 200 1|199,499|199,500|199 199@5+0 100|2000:1/2000", []deskLine{
			{"long", "5 5", ""}, {"mirror", "3:4/4", ""}, {"turn", "199@5+0", ""}, {"speed", "0/1", ""}, {"grow", "0/1", ""}, {"when 5", "no", ""}, {"at 60", "5", ""}, {"tip 7", "1000/1", ""},
			{"far", "100000/1", ""}, {"hidden", "-", ""}, {"dark 5", "2,3,4,5", ""}, {"end 2", "100000/1", ""}, {"lamp 199", "no", ""}, {"walker 1@0-1", "1@0-1", "3:4/4 200 1|199,499|199,500|199 1@0-1 100|2000:1/2000"},
			{"poles 1|199", "1|199", "3:4/4 200 1|199 199@5+0 100|2000:1/2000"}, {"poles 1|200", "no", ""}, {"times 1", "100|2000:1/2000", ""}, {"times 2", "no", ""},
		}},
		// The walker alone is too high for a lower lamp, or a pole alone.
		{"1:1/1 6 1|1 5@0+1 1|1:1/2", []deskLine{
			{"lamp 5", "no", ""}, {"lamp 6", "6", ""}, {"lamp 7", "7", "1:1/1 7 1|1 5@0+1 1|1:1/2"}, {"cross", "1/2", ""}, {"place", "1/2", ""}, {"long", "no", ""}, {"at 0", "0", ""}, {"tip 0", "0/1", ""}, {"more", "no", ""},
		}},
		{"1:1/1 6 1|5 1@0+1 1|1:1/2", []deskLine{{"lamp 5", "no", ""}, {"lamp 200", "200", "1:1/1 200 1|5 1@0+1 1|1:1/2"}}},
	} {
		d := deskOf(t, c.desk)
		for _, l := range c.lines {
			behind := d
			if l.behind != "" {
				behind = deskOf(t, l.behind)
			}
			checkLine(t, d, l.line, behind, l.reply)
		}
	}
}

// Promise 10: a line does what the call does that it names, also where that call fails.
func TestLinesDoWhatTheirCallsDo(t *testing.T) {
	replies := map[string]map[string]bool{}
	lines := sampleLines()
	for _, d := range sampleDesks(t) {
		for _, line := range lines {
			want, reply := byTable(d, line)
			checkLine(t, d, line, want, reply)
			name, _, _ := strings.Cut(line, " ")
			if replies[name] == nil {
				replies[name] = map[string]bool{}
			}
			replies[name][reply] = true
		}
	}
	// Each one that can fail does so somewhere, and each one that asks of the desk has several answers.
	for name := range consoleTable {
		if !replies[name]["no"] && !slices.Contains(strings.Fields("ladders island mirror turn show row who isle cross place squares far hidden speed grow high away"), name) {
			t.Error(name, "never fails")
		}
		if len(replies[name]) < 3 {
			t.Error(name, "is always answered alike", replies[name])
		}
	}
}

// Lines that are none of the table: nothing changes.
func TestLinesThatAreNone(t *testing.T) {
	lines := []string{
		"", " ", "  ", "   ", "fly", "what", "no", "-", "0", "7", "56:105/42", "2@4+3",
		// An empty word.
		"cross ", " cross", "  cross", "cross  ", "show ", " show", "turn ", "mirror ", "wider ", "wider  4", " wider 4", "wider 4 ", "lamp ", "lamp  6", "ladders ", "ladders  56:105/42", "ladders 56:105/42 ", "poles ", "walker ", "island ",
		"images  10 3 2", "images 10  3 2", "images 10 3 2 ", "images 10 3 ", "images 10 3  ", "images   ", "wedge 60 ", "wedge  20", "wedge  ", "tower 2 3 ", "sights  2 5 12", "dark ", "at ",
		// Too many words, or too few.
		"cross 1", "show show", "turn 1", "mirror 1", "mirror 56:105/42", "row 1", "far 1", "hidden 1", "speed 0", "high 1", "more 1 2", "isle 1 2 3", "cross 1 2", "who 2 3 30",
		"wider", "times", "lamp", "pairs", "shadow", "end", "dark", "at", "tip", "size", "when", "wider 1 1", "lamp 6 6", "times 1 1", "pairs 2 2", "shadow 1 1", "dark 1 2 3", "at 1 1", "when 5 5",
		"ladders", "poles", "walker", "island", "ladders 56:105/42 56:105/42", "ladders 56 105 42", "poles 1|1 2|1", "poles 1|1, 2|1", "walker 2@4 +3", "walker 2@4+3 2@4+3", "island 5|1000:123/127 1",
		"images", "images 10", "images 10 3", "images 10 3 2 1", "wedge", "wedge 60", "wedge 60 20 1", "wedge 60 20 1 1", "tower", "tower 2", "tower 2 3", "tower 2 3 30 1", "sights 2 5", "sights 2 5 12 1",
		// Words of another kind.
		"ladders 7", "ladders 2@4+3", "ladders 1|1", "ladders 5|1000:123/127", "poles 56:105/42", "poles 7", "poles -", "walker 4", "walker 1|1", "island 56:105/42", "island 1|1", "lamp 1|1", "wider x", "times 2@4+3", "images 10 x 2", "images x 3 2", "images 10 3 x", "wedge 60 x", "wedge x 20", "tower x 0 0", "tower 0 0 x", "sights 0 x 0", "shadow x", "dark -",
		// Texts of a kind that are almost ones.
		"ladders 056:105/42", "ladders 0:105/42", "ladders 56:105/1001", "ladders 56:105", "poles 2|3,2|4", "poles 4|3,2|4", "poles 2|3,", "poles 2|0", "poles 0|2", "poles 501|2", "walker 2@4", "walker 2@4-0", "walker 2@4+51", "walker 2@501+3", "walker 0@4+3", "island 5|1000:127/123", "island 101|1000:123/127", "island 5|2001:123/127", "island 5|1000:0/127",
		// Other names.
		"Cross", "CROSS", "cros", "crosss", "shadows 1", "ends 2", "images2 10 3 2", "image 10 3 2", "light 6", "lam 6", "ladder 56:105/42", "pole 1|1", "islands 5|1000:123/127", "narrower 4", "length", "area", "walk 2", "help", "quit",
		// Names that are followed by what is no blank.
		"cross\t", "wider\t4", "wider=4", "wider4", "cross\r", "cross\x00", "\x00cross", "\xffcross", "cross\xff", "cro\u00dfs", "wider\u00a04", "w\u0131der 4", "\xef\xbb\xbfcross", "cross;", "cross,place", "# cross", "\x00", "\xff\xfe", "\r",
		"wider \u0664", "wider \uff14", "lamp \x00", "at 1\x00", "at \xff", "wider 4\r", "ladders 56:105/42\r", "poles 1|1\x00", "walker 2@4\xff+3", "island 5|1000:123/127\t",
		strings.Repeat("x", 3000), strings.Repeat(" ", 3000), "cross" + strings.Repeat(" ", 2995), "images" + strings.Repeat(" 1", 1497), "wider " + strings.Repeat("0", 2993) + "4", strings.Repeat("\xff", 3000), "poles " + strings.Repeat("1|1,", 748),
	}
	for _, d := range sampleDesks(t) {
		for _, line := range lines {
			checkLine(t, d, line, d, "what")
		}
	}
	for _, line := range lines {
		if len(line) == 3000 {
			continue // no line of a script
		}
		if replies, ok := impl.RunScript("turn\n" + line[:min(len(line), 2990)] + "\nwho\n"); !slices.Equal(replies, []string{"2@4-3", "what", "2@4-3"}) || !ok {
			t.Errorf("%q %v %v", line, replies, ok)
		}
	}
}

// Each byte of a line counts.
func TestLinesWithOtherBytes(t *testing.T) {
	d := deskOf(t, firstDesk)
	check := func(line string) {
		t.Helper()
		if strings.Contains(line, "\n") {
			checkNoLine(t, d, line)
			return
		}
		want, reply := byTable(d, line)
		checkLine(t, d, line, want, reply)
	}
	for _, base := range []string{"cross", "lamp 60", "wider 12", "ladders 4:6/3", "poles 1|1,4|2", "walker 2@4-3", "island 5|9:3/7", "wedge 60 20", "images 10 3 2", "tower 2 3 30", "dark 12", "turn"} {
		for k := 0; k <= len(base); k++ {
			for c := range 256 {
				check(base[:k] + string([]byte{byte(c)}) + base[k:])
				if k < len(base) {
					check(base[:k] + string([]byte{byte(c)}) + base[k+1:])
				}
			}
			check(base[:k])
			check(base[k:])
		}
	}
}

// Numbers are in 0..999999, without superfluous zeros: those that are none are told apart from those for which a function fails.
func TestNumbersInLines(t *testing.T) {
	d := deskOf(t, firstDesk)
	isNumber := map[string]bool{}
	for _, word := range []string{"0", "1", "9", "10", "99", "100", "999", "1000", "9999", "10000", "99999", "100000", "900000", "999998", "999999"} {
		isNumber[word] = true
	}
	for _, word := range []string{
		"00", "01", "007", "0000000", "000001", "0999999", "0000000000000000000000001", "1000000", "1000001", "9999999", "10000000", "2147483648", "4294967296", "4294967302", "9223372036854775807", "9223372036854775808", "18446744073709551616", "18446744073709551622", strings.Repeat("9", 1000),
		"-1", "-0", "+1", "+0", "1.0", "1,0", "1e3", "0x1", "0b1", "0o7", "1_0", "1_000", "1/1", "", "-", "+", "x", "\u0661", "\uff11", "\u00b2", "1\x00", "a", "nan", "inf",
	} {
		isNumber[word] = false
	}
	for word, is := range isNumber {
		for name, kind := range consoleTable {
			if strings.Trim(kind.words, "NKM") != "" {
				continue
			}
			for k := range kind.words {
				// The other numbers are fine.
				words := []string{"60", "20", "2"}[:len(kind.words)]
				words[k] = word
				line := name + " " + strings.Join(words, " ")
				want, reply := byTable(d, line)
				if is == (reply == "what") {
					t.Fatal(line, "is read as", reply)
				}
				checkLine(t, d, line, want, reply)
			}
		}
	}
}

// failsOnScript checks that the calls with a text that is no script fail with zeros.
func failsOnScript(t *testing.T, s string) {
	t.Helper()
	if replies, ok := impl.RunScript(s); len(replies) != 0 || ok {
		t.Errorf("%.40q RunScript %v %v", s, replies, ok)
	}
	if d, ok := impl.DeskAfter(s); !sameDesk(d, impl.Desk{}) || ok {
		t.Errorf("%.40q DeskAfter %v %v", s, d, ok)
	}
	if failed, ok := impl.FailedLines(s); len(failed) != 0 || ok {
		t.Errorf("%.40q FailedLines %v %v", s, failed, ok)
	}
}

// checkScript checks what is told of a script against the lines of the chapter's table, and against DeskLine, one line after the other.
func checkScript(t *testing.T, lines []string) {
	t.Helper()
	s := ""
	d, e := deskOf(t, firstDesk), deskOf(t, firstDesk)
	var replies []string
	var failed []int
	for k, line := range lines {
		s += line + "\n"
		next, reply := byTable(d, line)
		after, told, ok := impl.DeskLine(e, line)
		if !sameDesk(next, after) || reply != told || !ok || !impl.IsDesk(after) {
			t.Fatalf("%q: %v %q %v instead of %v %q", line, after, told, ok, next, reply)
		}
		d, e = next, after
		replies = append(replies, reply)
		if reply == "no" || reply == "what" {
			failed = append(failed, k+1)
		}
	}
	if got, ok := impl.RunScript(s); !slices.Equal(got, replies) || !ok {
		t.Fatalf("%q: RunScript %v %v", s, got, ok)
	}
	if got, ok := impl.DeskAfter(s); !sameDesk(got, d) || !ok {
		t.Fatalf("%q: DeskAfter %v %v", s, got, ok)
	}
	if got, ok := impl.FailedLines(s); !slices.Equal(got, failed) || !ok {
		t.Fatalf("%q: FailedLines %v %v", s, got, ok)
	}
}

// Promise 10: scripts do what the calls do that they name, one line after the other.
func TestScripts(t *testing.T) {
	lines := sampleLines()
	z := 11
	next := func(below int) int {
		z = (z*269 + 1361) % 10007
		return z % below
	}
	// Most lines change the desk, so that those that ask have something to tell of: not the same at each line.
	changes := []string{"mirror", "turn", "wider 1", "wider 4", "times 2", "lamp 200", "lamp 12", "lamp 3", "lamp 2", "poles 1|1", "poles 4|2,5|1", "poles 3|11,60|5,61|150", "walker 1@0+1", "walker 2@60-1", "walker 150@7+0", "ladders 3:4/4", "ladders 12:5/9", "ladders 996:1/2", "island 1|2:3/4", "island 2|30:7/9"}
	for i := range 400 {
		var script []string
		for range i % 51 {
			switch next(4) {
			case 0:
				script = append(script, changes[next(len(changes))])
			case 1:
				script = append(script, []string{"show", "row", "who", "isle", "cross", "place", "squares", "long", "far", "hidden", "speed", "grow", "high", "away", "more", "at 3", "tip 3", "size 3", "when 7", "shadow 2", "end 1", "dark 40"}[next(22)])
			case 2:
				script = append(script, lines[(next(10007)*10007+next(10007))%len(lines)])
			default:
				script = append(script, []string{"", " ", "fly", "cross ", "lamp 06", "mirror", "turn"}[next(7)])
			}
		}
		checkScript(t, script)
	}
}

// A line that is refused changes nothing: the desk behind it is that before it, for all that is asked then.
func TestRefusedLinesChangeNothing(t *testing.T) {
	asked := []string{"show", "row", "who", "isle", "cross", "far", "hidden", "speed", "at 1", "high", "dark 500", "end 0"}
	want, ok := impl.RunScript(strings.Join(asked, "\n") + "\n")
	if !ok || len(want) != len(asked) {
		t.Fatal(want, ok)
	}
	for _, line := range []string{"lamp 3", "lamp 2", "lamp 0", "lamp 201", "poles 1|6", "poles 1|1,2|200", "walker 6@0+0", "walker 199@500-50", "wider 945", "times 3", "times 0", "lamp 06", "poles 2|2,1|1", "ladders 0:1/1", "island 1|1:2/1", "turn 1", "mirror ", "at 61", "", "fly"} {
		got, ok := impl.RunScript(line + "\n" + strings.Join(asked, "\n") + "\n")
		if !ok || len(got) == 0 || got[0] != "no" && got[0] != "what" || !slices.Equal(got[1:], want) {
			t.Error(line, got, ok)
		}
		if failed, ok := impl.FailedLines(strings.Repeat("cross\n"+line+"\n", 3)); !slices.Equal(failed, []int{2, 4, 6}) || !ok {
			t.Error(line, failed, ok)
		}
	}
	// Lower poles and a lower walker first, then the lamp: the order decides.
	checkScript(t, []string{"lamp 2", "poles 1|1", "lamp 2", "walker 1@0+0", "lamp 2", "poles 1|2", "walker 2@0+0", "lamp 3", "poles 1|2", "walker 2@0+0", "lamp 2", "row", "who"})
	replies, ok := impl.RunScript("lamp 2\npoles 1|1\nlamp 2\nwalker 1@0+0\nlamp 2\npoles 1|2\nwalker 2@0+0\nlamp 3\npoles 1|2\nwalker 2@0+0\nlamp 2\nrow\nwho\n")
	if !slices.Equal(replies, []string{"no", "1|1", "no", "1@0+0", "2", "no", "no", "3", "1|2", "2@0+0", "no", "1|2", "2@0+0"}) || !ok {
		t.Error(replies, ok)
	}
}

func TestScriptsAtTheirLimits(t *testing.T) {
	// An empty script: no replies, the first desk.
	if replies, ok := impl.RunScript(""); len(replies) != 0 || !ok {
		t.Error(replies, ok)
	}
	if d, ok := impl.DeskAfter(""); !sameDesk(d, deskOf(t, firstDesk)) || !ok {
		t.Error(d, ok)
	}
	if failed, ok := impl.FailedLines(""); len(failed) != 0 || !ok {
		t.Error(failed, ok)
	}
	// Empty lines are lines.
	for many := 1; many <= 50; many++ {
		checkScript(t, make([]string, many))
		checkScript(t, slices.Repeat([]string{"wider 1"}, many))
	}
	if replies, ok := impl.RunScript("\n"); !slices.Equal(replies, []string{"what"}) || !ok {
		t.Error(replies, ok)
	}
	// Just MaxLines, and more.
	for _, line := range []string{"cross", "", "fly", "wider 1", "turn"} {
		checkScript(t, slices.Repeat([]string{line}, 50))
		for _, many := range []int{51, 52, 100} {
			failsOnScript(t, strings.Repeat(line+"\n", many))
		}
		failsOnScript(t, strings.Repeat(line+"\n", 50)+"cross")
	}
	// Just MaxScript bytes, with the newlines, and one more.
	checkScript(t, []string{strings.Repeat("x", 2999)})
	failsOnScript(t, strings.Repeat("x", 3000)+"\n")
	failsOnScript(t, strings.Repeat("x", 3000))
	checkScript(t, append(slices.Repeat([]string{strings.Repeat("x", 59)}, 49), "wider 4"+strings.Repeat(" ", 52)))
	failsOnScript(t, strings.Repeat(strings.Repeat("x", 59)+"\n", 49)+strings.Repeat("x", 60)+"\n")
	checkScript(t, []string{"wider 4", "show", strings.Repeat("y", 2999-13)})
	failsOnScript(t, "wider 4\nshow\n"+strings.Repeat("y", 3000-13)+"\n")
	if failed, ok := impl.FailedLines("wider 4\nshow\n" + strings.Repeat("y", 2999-13) + "\n"); !slices.Equal(failed, []int{3}) || !ok {
		t.Error(failed, ok)
	}
}

func TestNoScripts(t *testing.T) {
	for _, s := range []string{
		// The last line is not ended by a newline.
		"cross", "x", " ", "\r", "\x00", "cross\nplace", "cross\n ", "\ncross", "\n\ncross", "cross\n\nplace", "cross\n\r", "turn\nturn\nturn", consoleExample + "x", strings.TrimSuffix(consoleExample, "\n"),
		// Too long, with few lines or many.
		strings.Repeat("\n", 51), strings.Repeat("\n", 3000), strings.Repeat("\n", 3001), strings.Repeat("\n", 1000000), strings.Repeat("x", 1000000), strings.Repeat("x", 1000000) + "\n", strings.Repeat("cross\n", 501), strings.Repeat("cross\n", 100000), strings.Repeat("\xff", 3000), strings.Repeat(" \n", 51),
	} {
		failsOnScript(t, s)
	}
	// These are scripts: their lines are none of the table.
	checkScript(t, []string{"cross\r", "place"})
	checkScript(t, []string{"", "cross", "", "place", ""})
	checkScript(t, []string{"\x00", "\xff", "\xef\xbb\xbfcross", "cross\x00", "c\u00f6\u00e4\u00fc"})
}

// deskWith is the first desk, changed.
func deskWith(t *testing.T, change func(d *impl.Desk)) impl.Desk {
	t.Helper()
	d := deskOf(t, firstDesk)
	change(&d)
	return d
}

// desksThatAreNone have ladders, a lamp, poles, a walker or an island that is none, or does not belong to the lamp.
func desksThatAreNone(t *testing.T) []impl.Desk {
	t.Helper()
	all := []impl.Desk{{}}
	addWith := func(change func(d *impl.Desk)) { all = append(all, deskWith(t, change)) }
	for _, l := range invalidLadders() {
		addWith(func(d *impl.Desk) { d.Ladders = l })
	}
	for _, poles := range rowsThatAreNoPoles() {
		addWith(func(d *impl.Desk) { d.Poles = poles })
		addWith(func(d *impl.Desk) { d.Poles, d.Lamp = poles, 200 })
	}
	noPoles(func(lamp int, p impl.Pole) {
		addWith(func(d *impl.Desk) { d.Lamp, d.Poles = lamp, []impl.Pole{p} })
	})
	noWalkers(func(lamp int, w impl.Walker) {
		addWith(func(d *impl.Desk) { d.Lamp, d.Walker, d.Poles = lamp, w, []impl.Pole{{Place: 1, High: 1}} })
	})
	for _, i := range noIslands() {
		addWith(func(d *impl.Desk) { d.Island = i })
	}
	// Only the lamp is too low, or none.
	for _, lamp := range consoleNumbers {
		if lamp < 4 || lamp > 200 {
			addWith(func(d *impl.Desk) { d.Lamp = lamp })
		}
	}
	addWith(func(d *impl.Desk) { d.Lamp, d.Walker.High = 4, 4 })
	addWith(func(d *impl.Desk) { d.Lamp, d.Poles = 2, []impl.Pole{{Place: 1, High: 1}} })
	addWith(func(d *impl.Desk) { d.Poles = nil })
	addWith(func(d *impl.Desk) { d.Poles = d.Poles[:0] })
	addWith(func(d *impl.Desk) { d.Walker = impl.Walker{} })
	addWith(func(d *impl.Desk) { d.Poles[2].High = 6 })
	return all
}

func TestIsDesk(t *testing.T) {
	for _, d := range sampleDesks(t) {
		if !impl.IsDesk(d) {
			t.Error(d, "is a desk")
		}
	}
	for _, d := range desksThatAreNone(t) {
		if isDeskByLimits(d) {
			t.Fatal(d, "is a desk")
		}
		if impl.IsDesk(d) {
			t.Error(d, "is no desk")
		}
		for _, line := range []string{"cross", "show", "row", "who", "isle", "fly", "", "pairs 2", "tower 2 3 30", "wedge 60 20", "lamp 200", "poles 1|1", "walker 2@4+3", "ladders 56:105/42", "island 5|1000:123/127", "mirror", "turn"} {
			checkNoLine(t, d, line)
		}
	}
	// One number of a desk, whatever it is.
	for _, n := range consoleNumbers {
		for k, d := range []impl.Desk{
			deskWith(t, func(d *impl.Desk) { d.Ladders.Wide = n }), deskWith(t, func(d *impl.Desk) { d.Ladders.Left = n }), deskWith(t, func(d *impl.Desk) { d.Ladders.Right = n }),
			deskWith(t, func(d *impl.Desk) { d.Lamp = n }), deskWith(t, func(d *impl.Desk) { d.Poles[2].Place = n }), deskWith(t, func(d *impl.Desk) { d.Poles[1].High = n }), deskWith(t, func(d *impl.Desk) { d.Poles[0].Place = n }),
			deskWith(t, func(d *impl.Desk) { d.Walker.High = n }), deskWith(t, func(d *impl.Desk) { d.Walker.Place = n }), deskWith(t, func(d *impl.Desk) { d.Walker.Speed = n }),
			deskWith(t, func(d *impl.Desk) { d.Island.Staff = n }), deskWith(t, func(d *impl.Desk) { d.Island.Apart = n }), deskWith(t, func(d *impl.Desk) { d.Island.First = n }), deskWith(t, func(d *impl.Desk) { d.Island.Second = n }),
		} {
			is := isDeskByLimits(d)
			if impl.IsDesk(d) != is {
				t.Error(k, n, d, is)
			}
			if _, _, ok := impl.DeskLine(d, "show"); ok != is {
				t.Error(k, n, d, ok)
			}
		}
	}
}

// checkNoLine checks that a line on a desk fails with zeros, as one of both is none.
func checkNoLine(t *testing.T, d impl.Desk, line string) {
	t.Helper()
	if got, reply, ok := impl.DeskLine(d, line); !sameDesk(got, impl.Desk{}) || reply != "" || ok {
		t.Errorf("%.40q on %v: %v %q %v", line, d, got, reply, ok)
	}
}

// A line has no newline, and at most MaxScript bytes.
func TestNoDeskLines(t *testing.T) {
	for _, d := range sampleDesks(t) {
		for _, line := range []string{"\n", "cross\n", "\ncross", "cross\nplace", "cross\n\n", "fly\n", "wider 4\n", "wider\n4", " \n", strings.Repeat("\n", 3000), strings.Repeat("x", 2999) + "\n", consoleExample,
			strings.Repeat("x", 3001), strings.Repeat(" ", 3001), "cross" + strings.Repeat(" ", 2996), strings.Repeat("x", 1000000), strings.Repeat("\n", 1000000), strings.Repeat("\xff", 3001)} {
			checkNoLine(t, d, line)
		}
		checkLine(t, d, strings.Repeat("x", 3000), d, "what")
	}
}

// Promise 11: no desk and no text makes a call panic.
func TestConsoleCallsNeverPanic(t *testing.T) {
	lines := []string{"mirror", "turn", "wider 1", "lamp 200", "poles 1|1", "shadow 0", "dark 500", "far", "hidden", "at 60", "tip 0", "when 500", "more", "times 2", "squares", "long", "cross", "images 500 500 40", "wedge 2 1", "x"}
	for _, a := range consoleNumbers {
		for _, b := range consoleNumbers {
			for _, n := range consoleNumbers {
				d := impl.Desk{
					Ladders: impl.Ladders{Wide: a, Left: b, Right: n}, Lamp: b, Poles: []impl.Pole{{Place: a, High: n}, {Place: n, High: a}},
					Walker: impl.Walker{High: n, Place: b, Speed: a}, Island: impl.Island{Staff: a, Apart: b, First: n, Second: a},
				}
				if impl.IsDesk(d) != isDeskByLimits(d) {
					t.Fatal(d)
				}
				d.Island, d.Ladders = impl.FirstDesk().Island, impl.FirstDesk().Ladders
				d.Poles = d.Poles[:1]
				is := isDeskByLimits(d)
				for _, line := range lines {
					if _, _, ok := impl.DeskLine(d, line); ok != is {
						t.Fatal(d, line, ok)
					}
				}
			}
		}
	}
	impl.IsDesk(impl.Desk{Poles: make([]impl.Pole, 100000)})
	// Texts of any bytes.
	z := 7
	for i := range 4000 {
		text := make([]byte, i%97)
		for k := range text {
			z = (z*269 + 1361) % 10007
			text[k] = byte(z)
			if i%3 == 0 {
				text[k] = "crosladmpi 0123456789|@+-:/,\n"[z%29]
			}
		}
		s := string(text)
		_, _, ok := impl.DeskLine(impl.FirstDesk(), s)
		if ok == strings.Contains(s, "\n") {
			t.Fatalf("%q %v", s, ok)
		}
		impl.RunScript(s)
		impl.DeskAfter(s + "\n")
		impl.FailedLines(s + "\n")
	}
}

// Promise 11: desks are not modified, nor is what lies behind their poles in the same memory. That is no pole: it decides nothing.
func TestDesksAreNotModified(t *testing.T) {
	lines := append(sampleLines(), "", "fly", "cross ", strings.Repeat("x", 3001), "cross\n")
	for _, d := range sampleDesks(t) {
		room := slices.Repeat([]impl.Pole{{Place: -7, High: 300}}, 9)
		copy(room, d.Poles)
		before := slices.Clone(room)
		roomy := d
		roomy.Poles = room[:len(d.Poles)]
		for _, line := range lines {
			want, reply, ok := impl.DeskLine(d, line)
			got, told, fine := impl.DeskLine(roomy, line)
			if !sameDesk(got, want) || told != reply || fine != ok {
				t.Fatal(d, line, got, told, fine)
			}
			if !slices.Equal(room, before) || !sameDesk(roomy, d) {
				t.Fatal(d, line, "is modified", room)
			}
			// All the room of the result is its own, also what is behind its length.
			spoilPoles(got.Poles[:cap(got.Poles)])
			if !slices.Equal(room, before) {
				t.Fatal(d, line, "a result shares memory with the desk", room)
			}
		}
		if !impl.IsDesk(roomy) || !slices.Equal(room, before) {
			t.Fatal(d, "IsDesk", room)
		}
	}
}

func spoilPoles(poles []impl.Pole) {
	for k := range poles {
		poles[k] = impl.Pole{Place: -1, High: -1}
	}
}

// Results are new memory, and nothing is kept between calls.
func TestDesksAreNew(t *testing.T) {
	for _, line := range []string{"row", "turn", "poles 1|1,2|2", "lamp 7", "lamp 3", "fly", "poles 1|6"} {
		d := deskOf(t, firstDesk)
		got, _, ok := impl.DeskLine(d, line)
		kept := slices.Clone(got.Poles)
		spoilPoles(d.Poles)
		if !slices.Equal(got.Poles, kept) || !ok {
			t.Error(line, "the desk shares memory with a result", got)
		}
		spoilPoles(got.Poles[:cap(got.Poles)])
		again, _, ok := impl.DeskLine(deskOf(t, firstDesk), line)
		if !slices.Equal(again.Poles, kept) || !ok {
			t.Error(line, "is kept", again)
		}
	}
	for _, s := range []string{"", "turn\n", "poles 1|1,2|2\nmirror\n", "fly\n"} {
		first, ok := impl.DeskAfter(s)
		kept := slices.Clone(first.Poles)
		second, fine := impl.DeskAfter(s)
		spoilPoles(first.Poles[:cap(first.Poles)])
		third, _ := impl.DeskAfter(s)
		if !ok || !fine || len(kept) == 0 || !slices.Equal(second.Poles, kept) || !slices.Equal(third.Poles, kept) {
			t.Error(s, "is kept", second, third)
		}
	}
	first := impl.FirstDesk()
	spoilPoles(first.Poles[:cap(first.Poles)])
	if !sameDesk(impl.FirstDesk(), deskOf(t, firstDesk)) {
		t.Error("the first desk is kept", impl.FirstDesk())
	}
	replies, _ := impl.RunScript(consoleExample)
	failed, _ := impl.FailedLines(consoleExample)
	replies[0], failed[0] = "spoiled", -1
	again, _ := impl.RunScript(consoleExample)
	failedAgain, _ := impl.FailedLines(consoleExample)
	if again[0] != "30/1" || failedAgain[0] != 19 {
		t.Error("results are kept between calls", again, failedAgain)
	}
}
