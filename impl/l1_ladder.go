package impl

import (
	"strconv"
	"strings"
)

const MaxWide = 1000
const MaxCrossing = 200
const MaxWholeLadder = 150

type Ladders struct {
	Wide  int
	Left  int
	Right int
}

// AreLadders reports whether l, whose numbers may be any, are ladders.
func AreLadders(l Ladders) bool {
	return isWithin(l.Wide, 1, MaxWide) && isWithin(l.Left, 1, MaxWide) && isWithin(l.Right, 1, MaxWide)
}

// CrossHeight returns how high the crossing is: Left times Right, divided by both together.
func CrossHeight(l Ladders) (int, int, bool) {
	if !AreLadders(l) {
		return 0, 0, false
	}
	return toldFraction(l.Left*l.Right, l.Left+l.Right)
}

// CrossPlace returns the place of the crossing.
func CrossPlace(l Ladders) (int, int, bool) {
	if !AreLadders(l) {
		return 0, 0, false
	}
	return toldFraction(l.Wide*l.Left, l.Left+l.Right)
}

// SquaresOf returns the squares of the lengths of both ladders, first of that which leans to the left wall.
func SquaresOf(l Ladders) (int, int, bool) {
	if !AreLadders(l) {
		return 0, 0, false
	}
	return squareOfLength(l.Wide, l.Left), squareOfLength(l.Wide, l.Right), true
}

// LengthsOf returns these lengths. It fails if one is no whole number.
func LengthsOf(l Ladders) (int, int, bool) {
	if !AreLadders(l) {
		return 0, 0, false
	}
	left, leftWhole := wholeRoot(squareOfLength(l.Wide, l.Left))
	right, rightWhole := wholeRoot(squareOfLength(l.Wide, l.Right))
	if !leftWhole || !rightWhole {
		return 0, 0, false
	}
	return left, right, true
}

// HeightAt returns how high a ladder is at a place, that which leans to the right wall if right is true.
func HeightAt(l Ladders, right bool, place int) (int, int, bool) {
	if !AreLadders(l) || !isWithin(place, 0, l.Wide) {
		return 0, 0, false
	}
	if right {
		return toldFraction(l.Right*place, l.Wide)
	}
	return toldFraction(l.Left*(l.Wide-place), l.Wide)
}

// HighestAt returns the height of the higher one of both at a place.
func HighestAt(l Ladders, place int) (int, int, bool) {
	if !AreLadders(l) || !isWithin(place, 0, l.Wide) {
		return 0, 0, false
	}
	return toldFraction(max(l.Left*(l.Wide-place), l.Right*place), l.Wide)
}

// AreaBelow returns the area below the crossing, between both ladders and the ground: half of Wide times CrossHeight.
func AreaBelow(l Ladders) (int, int, bool) {
	if !AreLadders(l) {
		return 0, 0, false
	}
	return toldFraction(l.Wide*l.Left*l.Right, 2*(l.Left+l.Right))
}

// AreaBetween returns the area of all that is below one of both ladders at least.
func AreaBetween(l Ladders) (int, int, bool) {
	if !AreLadders(l) {
		return 0, 0, false
	}
	// What is below both ladders counts once: both triangles less AreaBelow.
	both := l.Left + l.Right
	return toldFraction(l.Wide*(both*both-l.Left*l.Right), 2*both)
}

// OtherHeight returns to which height the other ladder leans if one leans to a height in 1..MaxWide, and the crossing has the height num / den, both in 1..MaxWide. It fails unless that is less than the height of the ladder.
func OtherHeight(height int, num int, den int) (int, int, bool) {
	if !isWithin(height, 1, MaxWide) || !isWithin(num, 1, MaxWide) || !isWithin(den, 1, MaxWide) {
		return 0, 0, false
	}
	if num >= den*height {
		return 0, 0, false
	}
	return toldFraction(num*height, den*height-num)
}

// PairsFor returns all two whole heights, the first one not greater than the second one, whose ladders cross at a height, in 1..MaxCrossing, ordered by the first one, however great they are.
func PairsFor(cross int) ([][]int, bool) {
	if !isWithin(cross, 1, MaxCrossing) {
		return nil, false
	}
	var pairs [][]int
	// The lower ladder is above the crossing, but at most twice as high: otherwise both together would cross higher.
	for first := cross + 1; first <= 2*cross; first++ {
		if cross*first%(first-cross) == 0 {
			pairs = append(pairs, []int{first, cross * first / (first - cross)})
		}
	}
	return pairs, true
}

// CountPairs returns how many these are.
func CountPairs(cross int) (int, bool) {
	pairs, ok := PairsFor(cross)
	return len(pairs), ok
}

// IsWholeCrossing reports whether both lengths and the height of the crossing are whole numbers.
func IsWholeCrossing(l Ladders) (bool, bool) {
	if !AreLadders(l) {
		return false, false
	}
	_, _, whole := LengthsOf(l)
	return whole && crossWhole(l.Left, l.Right), true
}

// WholeCrossings returns all ladders with a whole crossing of which none is longer than most, in 1..MaxWholeLadder, and Left is not less than Right, ordered by Wide, then by Left, then by Right.
func WholeCrossings(most int) ([]Ladders, bool) {
	if !isWithin(most, 1, MaxWholeLadder) {
		return nil, false
	}
	whole := wholeHeights(most)
	var found []Ladders
search:
	for wide := 1; ; wide++ {
		for left := 1; ; left++ {
			if squareOfLength(wide, left) > most*most {
				if left == 1 { // a corridor too wide for the lowest ladder: so are all wider ones
					break search
				}
				continue search
			}
			if !whole[[2]int{wide, left}] {
				continue
			}
			for right := 1; right <= left; right++ {
				if whole[[2]int{wide, right}] && crossWhole(left, right) {
					found = append(found, Ladders{Wide: wide, Left: left, Right: right})
				}
			}
		}
	}
	return found, true
}

// LowestWhole returns that of these with the lowest crossing, the first one of several, and how high this is. It fails if there are none.
func LowestWhole(most int) (Ladders, int, bool) {
	all, ok := WholeCrossings(most)
	if !ok || len(all) == 0 {
		return Ladders{}, 0, false
	}
	best := all[0]
	lowest := floorOfCross(best)
	for _, l := range all[1:] {
		if cross := floorOfCross(l); cross < lowest {
			best, lowest = l, cross
		}
	}
	return best, lowest, true
}

// LongestStick returns the greatest whole length of a stick that stands upright in the corridor below both ladders: the greatest whole number that is not greater than CrossHeight.
func LongestStick(l Ladders) (int, bool) {
	if !AreLadders(l) {
		return 0, false
	}
	return floorOfCross(l), true
}

// MoveWall returns the ladders if the corridor is wider by so much, or narrower if by is less than 0, in -MaxWide..MaxWide, the heights being the same. It fails if it becomes too wide, or not 1 wide.
func MoveWall(l Ladders, by int) (Ladders, bool) {
	if !AreLadders(l) || !isWithin(by, -MaxWide, MaxWide) {
		return Ladders{}, false
	}
	return onlyLadders(Ladders{Wide: l.Wide + by, Left: l.Left, Right: l.Right})
}

// TimesLadders returns the ladders with all numbers by times as great, by in 1..MaxWide. It fails if one becomes too great.
func TimesLadders(l Ladders, by int) (Ladders, bool) {
	if !AreLadders(l) || !isWithin(by, 1, MaxWide) {
		return Ladders{}, false
	}
	return onlyLadders(Ladders{Wide: l.Wide * by, Left: l.Left * by, Right: l.Right * by})
}

// MirrorLadders returns the ladders with both sides exchanged.
func MirrorLadders(l Ladders) (Ladders, bool) {
	return onlyLadders(Ladders{Wide: l.Wide, Left: l.Right, Right: l.Left})
}

// LaddersText returns Wide, :, Left, / and Right.
func LaddersText(l Ladders) (string, bool) {
	if !AreLadders(l) {
		return "", false
	}
	return strconv.Itoa(l.Wide) + ":" + strconv.Itoa(l.Left) + "/" + strconv.Itoa(l.Right), true
}

// ParseLadders returns the ladders with a LaddersText. It fails if there are none.
func ParseLadders(s string) (Ladders, bool) {
	// Where a sign is missing, what would be behind it is empty, and so no number.
	wideText, heights, _ := strings.Cut(s, ":")
	leftText, rightText, _ := strings.Cut(heights, "/")
	wide, wideOk := parseNumber(wideText)
	left, leftOk := parseNumber(leftText)
	right, rightOk := parseNumber(rightText)
	if !wideOk || !leftOk || !rightOk {
		return Ladders{}, false
	}
	return onlyLadders(Ladders{Wide: wide, Left: left, Right: right})
}

// onlyLadders returns l if these are ladders.
func onlyLadders(l Ladders) (Ladders, bool) {
	if !AreLadders(l) {
		return Ladders{}, false
	}
	return l, true
}

// wholeHeights keeps each width and height of a ladder with a whole length of at most most.
func wholeHeights(most int) map[[2]int]bool {
	whole := map[[2]int]bool{}
	for wide := 1; wide < most; wide++ {
		for height := 1; squareOfLength(wide, height) <= most*most; height++ {
			if _, ok := wholeRoot(squareOfLength(wide, height)); ok {
				whole[[2]int{wide, height}] = true
			}
		}
	}
	return whole
}

func squareOfLength(wide int, height int) int {
	return wide*wide + height*height
}

func crossWhole(left int, right int) bool {
	return left*right%(left+right) == 0
}

func floorOfCross(l Ladders) int {
	return l.Left * l.Right / (l.Left + l.Right)
}

func isWithin(n int, least int, most int) bool {
	return least <= n && n <= most
}

// toldFraction returns num / den in lowest terms and true, as a call that succeeds tells it: num may be less than 0, den is at least 1.
func toldFraction(num int, den int) (int, int, bool) {
	by := greatestDivisor(max(num, -num), den)
	return num / by, den / by, true
}

// greatestDivisor returns the greatest common divisor of two numbers of at least 0, one of which at least is greater than 0.
func greatestDivisor[N ~int | ~int64](a N, b N) N {
	for b != 0 {
		a, b = b, a%b
	}
	return a
}

// wholeRoot returns the square root of n, at least 0, and whether it is a whole number.
func wholeRoot(n int) (int, bool) {
	root := rootBelow(n)
	return root, root*root == n
}

// rootBelow returns the greatest number whose square is not greater than n, at least 0. It is made from whole numbers alone, so that no rounding can be wrong.
func rootBelow(n int) int {
	root := n
	for root > 0 && root > n/root {
		root = (root + n/root) / 2
	}
	return root
}

// parseNumber reads a number of at least 0 in decimal, without sign or superfluous zeros: just as Itoa writes it.
func parseNumber(s string) (int, bool) {
	n, ok := parseSigned(s)
	if !ok || n < 0 {
		return 0, false
	}
	return n, true
}

// parseSigned reads a number as parseNumber does, or one less than 0 with - ahead of it.
func parseSigned(s string) (int, bool) {
	n, err := strconv.Atoi(s)
	if err != nil || strconv.Itoa(n) != s {
		return 0, false
	}
	return n, true
}
