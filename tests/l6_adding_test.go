package tests

import (
	"math"
	"math/rand"
	"slices"
	"strconv"
	"strings"
	"testing"

	"loop.example/g01006/impl"
)

// kindLetters has a row for each value of a rod with the first letters of the kinds for the
// digits 1..9.
var kindLetters = [10]string{
	"ddddddddd",
	"dddfddddt",
	"ddffdddtt",
	"dfffddttt",
	"ffffdtttt",
	"ddddtbbbb",
	"dddttbbbt",
	"ddtttbbtt",
	"dttttbttt",
	"ttttttttt",
}

// wantedKind looks up the kind for a value and a digit.
func wantedKind(value, digit int) string {
	return map[byte]string{'d': "direct", 'f': "five", 't': "ten", 'b': "both"}[kindLetters[value][digit-1]]
}

// numbersOutside are numbers just below and above some range, and far away from it.
func numbersOutside(first, last int) []int {
	return []int{math.MinInt, math.MinInt + 1, -1 << 32, first - 10, first - 2, first - 1, last + 1, last + 2, last + 10, 1 << 32, 1<<32 + 1, math.MaxInt - 1, math.MaxInt}
}

// standardFrames returns the standard frames of all kinds of beads with some rods and a number.
func standardFrames(rods, number int) []impl.Frame {
	var frames []impl.Frame
	for _, beads := range beadKinds {
		frames = append(frames, wantedStandard(beads[0], beads[1], rods, number))
	}
	return frames
}

// isStandardFrame compares all numbers of a frame with the greatest that a standard one has.
func isStandardFrame(f impl.Frame) bool {
	return !slices.ContainsFunc(f.Rods, func(rod [2]int) bool { return rod[0] > 1 || rod[1] > 4 })
}

// paddedDigits returns the digits of a number with zeros at its left.
func paddedDigits(rods, number int) []int {
	text := strconv.Itoa(number)
	var digits []int
	for _, c := range strings.Repeat("0", rods-len(text)) + text {
		digits = append(digits, int(c-'0'))
	}
	return digits
}

// digitSum returns the sum of the digits of a number.
func digitSum(number int) int {
	sum := 0
	for _, d := range paddedDigits(len(strconv.Itoa(number)), number) {
		sum += d
	}
	return sum
}

// beadsMoved returns the moves of some upper and lower beads of a rod.
func beadsMoved(rod, upper, lower int) []impl.BeadMove {
	var moves []impl.BeadMove
	if upper != 0 {
		moves = append(moves, impl.BeadMove{Rod: rod, Part: impl.PartUpper, By: upper})
	}
	if lower != 0 {
		moves = append(moves, impl.BeadMove{Rod: rod, Part: impl.PartLower, By: lower})
	}
	return moves
}

// wantedDigitMoves adds a digit to a list of values by the rules as they are told.
func wantedDigitMoves(values []int, rod, digit int) []impl.BeadMove {
	value, back := values[rod], 10-digit
	values[rod] = (value + digit) % 10
	var moves []impl.BeadMove
	switch wantedKind(value, digit) {
	case "direct":
		return beadsMoved(rod, digit/5, digit%5)
	case "five":
		return beadsMoved(rod, 1, -(5 - digit%5))
	case "ten":
		moves = beadsMoved(rod, -(back / 5), -(back % 5))
	case "both":
		moves = beadsMoved(rod, values[rod]/5-value/5, values[rod]%5-value%5)
	}
	return append(moves, wantedDigitMoves(values, rod-1, 1)...)
}

// wantedMoves adds a number that can be added to a standard frame digit by digit.
func wantedMoves(f impl.Frame, number int) []impl.BeadMove {
	moves := []impl.BeadMove{}
	values := paddedDigits(len(f.Rods), wantedNumber(f))
	for rod, digit := range paddedDigits(len(f.Rods), number) {
		if digit != 0 {
			moves = append(moves, wantedDigitMoves(values, rod, digit)...)
		}
	}
	return moves
}

// wantedKindsUsed looks up the kind of each digit; nothing is carried to a rod before its own
// digit is added.
func wantedKindsUsed(f impl.Frame, number int) []int {
	kinds := []int{0, 0, 0, 0}
	values := paddedDigits(len(f.Rods), wantedNumber(f))
	for rod, digit := range paddedDigits(len(f.Rods), number) {
		if digit != 0 {
			kinds[slices.Index([]string{"direct", "five", "ten", "both"}, wantedKind(values[rod], digit))]++
		}
	}
	return kinds
}

// checkMovesEnd tests that moves are played on valid frames up to the standard one with a number.
func checkMovesEnd(t *testing.T, f impl.Frame, moves []impl.BeadMove, number int) {
	t.Helper()
	want := wantedStandard(f.Upper, f.Lower, len(f.Rods), number)
	end, ok := wantedPlayed(f, moves)
	checkFrame(t, "the end of the moves "+wantedText(moves), end, ok, want, true)
	played, ok := impl.PlayMoves(f, moves)
	checkFrame(t, "played moves "+wantedText(moves), played, ok, want, true)
}

// checkNotAdded tests that a number cannot be added to a frame.
func checkNotAdded(t *testing.T, f impl.Frame, number int) {
	t.Helper()
	sum, ok := impl.AddNumber(f, number)
	checkFrame(t, "AddNumber "+strconv.Itoa(number), sum, ok, impl.Frame{}, false)
	moves, ok := impl.AddNumberMoves(f, number)
	checkMoves(t, "AddNumberMoves "+strconv.Itoa(number), moves, ok, nil, false)
	if n, ok := impl.CarriesOf(f, number); ok || n != 0 {
		t.Errorf("CarriesOf(%v, %d) = %d, %v", f, number, n, ok)
	}
	if kinds, ok := impl.KindsUsed(f, number); ok || len(kinds) != 0 {
		t.Errorf("KindsUsed(%v, %d) = %v, %v", f, number, kinds, ok)
	}
}

// checkAdded tests that a number is added to a standard frame if the sum has a digit for each
// rod at most, and not at all otherwise.
func checkAdded(t *testing.T, f impl.Frame, number int) {
	t.Helper()
	shown := wantedNumber(f)
	if number < 0 || number > powerOf10(len(f.Rods))-1-shown {
		checkNotAdded(t, f, number)
		return
	}
	before := cloneFrame(f)
	what := strconv.Itoa(shown) + " and " + strconv.Itoa(number)
	sum, ok := impl.AddNumber(f, number)
	checkFrame(t, "AddNumber "+what, sum, ok, wantedStandard(f.Upper, f.Lower, len(f.Rods), shown+number), true)
	moves, ok := impl.AddNumberMoves(f, number)
	checkMoves(t, "AddNumberMoves "+what, moves, ok, wantedMoves(f, number), true)
	checkMovesEnd(t, f, moves, shown+number)
	if n, ok := impl.CarriesOf(f, number); !ok || n != (digitSum(shown)+digitSum(number)-digitSum(shown+number))/9 {
		t.Errorf("CarriesOf %s = %d, %v", what, n, ok)
	}
	kinds, ok := impl.KindsUsed(f, number)
	checkInts(t, "KindsUsed "+what, kinds, ok, wantedKindsUsed(f, number)...)
	if !sameFrame(f, before) {
		t.Errorf("%v was changed to %v", before, f)
	}
}

// checkNoDigitAdded tests that a digit cannot be added to a rod.
func checkNoDigitAdded(t *testing.T, f impl.Frame, rod, digit int) {
	t.Helper()
	what := strconv.Itoa(digit) + " to rod " + strconv.Itoa(rod)
	sum, ok := impl.AddDigit(f, rod, digit)
	checkFrame(t, "AddDigit "+what, sum, ok, impl.Frame{}, false)
	moves, ok := impl.AddDigitMoves(f, rod, digit)
	checkMoves(t, "AddDigitMoves "+what, moves, ok, nil, false)
}

// checkNoLongestCarry tests that 1 cannot be added to a rod.
func checkNoLongestCarry(t *testing.T, f impl.Frame, rod int) {
	t.Helper()
	if n, ok := impl.LongestCarry(f, rod); ok || n != 0 {
		t.Errorf("LongestCarry(%v, %d) = %d, %v", f, rod, n, ok)
	}
}

// checkDigitAdded tests that a digit in 0..9 is added to a rod of a standard frame if there is
// room for the sum.
func checkDigitAdded(t *testing.T, f impl.Frame, rod, digit int) {
	t.Helper()
	number := digit * powerOf10(len(f.Rods)-1-rod)
	end := wantedNumber(f) + number
	if end >= powerOf10(len(f.Rods)) {
		checkNoDigitAdded(t, f, rod, digit)
		return
	}
	what := strconv.Itoa(digit) + " to rod " + strconv.Itoa(rod) + " of " + strconv.Itoa(wantedNumber(f))
	sum, ok := impl.AddDigit(f, rod, digit)
	checkFrame(t, "AddDigit "+what, sum, ok, wantedStandard(f.Upper, f.Lower, len(f.Rods), end), true)
	moves, ok := impl.AddDigitMoves(f, rod, digit)
	checkMoves(t, "AddDigitMoves "+what, moves, ok, wantedMoves(f, number), true)
	checkMovesEnd(t, f, moves, end)
}

func TestKindsForAllValuesAndDigits(t *testing.T) {
	for value := range 10 {
		for digit := 1; digit <= 9; digit++ {
			if kind, ok := impl.KindOfAdd(value, digit); !ok || kind != wantedKind(value, digit) {
				t.Errorf("KindOfAdd(%d, %d) = %q, %v; want %q", value, digit, kind, ok, wantedKind(value, digit))
			}
		}
	}
}

func TestKindsFollowTheRules(t *testing.T) {
	for v := range 10 {
		for d := 1; d <= 9; d++ {
			want := "both"
			switch {
			case v%5+d <= 4 || d >= 5 && v <= 4 && v+d-5 <= 4:
				want = "direct"
			case v+d <= 9:
				want = "five"
			case v >= 10-d && v%5 >= (10-d)%5 && (v >= 5 || 10-d < 5):
				want = "ten"
			}
			if kind, ok := impl.KindOfAdd(v, d); !ok || kind != want {
				t.Errorf("KindOfAdd(%d, %d) = %q, %v; want %q", v, d, kind, ok, want)
			}
		}
	}
}

func TestNoKindsForOtherValuesAndDigits(t *testing.T) {
	checkNone := func(value, digit int) {
		if kind, ok := impl.KindOfAdd(value, digit); ok || kind != "" {
			t.Errorf("KindOfAdd(%d, %d) = %q, %v", value, digit, kind, ok)
		}
	}
	for _, value := range numbersOutside(0, 9) {
		for digit := -1; digit <= 11; digit++ {
			checkNone(value, digit)
		}
	}
	for _, digit := range append(numbersOutside(1, 9), 0) {
		for value := -1; value <= 11; value++ {
			checkNone(value, digit)
		}
	}
}

func TestPromise6AllDigitsOnAllRods(t *testing.T) {
	for rods := 1; rods <= 3; rods++ {
		for number := range powerOf10(rods) {
			for _, f := range standardFrames(rods, number) {
				for rod := range rods {
					for digit := range 10 {
						checkDigitAdded(t, f, rod, digit)
					}
				}
			}
		}
	}
}

func TestPromise6DigitsOnTheRodsOfLongFrames(t *testing.T) {
	for _, f := range longFrames() {
		for rod := range f.Rods {
			for digit := range 10 {
				if isStandardFrame(f) {
					checkDigitAdded(t, f, rod, digit)
				} else {
					checkNoDigitAdded(t, f, rod, digit)
				}
			}
		}
	}
}

func TestPromise6AllShortNumbers(t *testing.T) {
	for rods := 1; rods <= 2; rods++ {
		for shown := range powerOf10(rods) {
			for _, f := range standardFrames(rods, shown) {
				for number := -2; number <= powerOf10(rods)+2; number++ {
					checkAdded(t, f, number)
				}
			}
		}
	}
	// The steps have no factor in common with 10, so that all digits come together.
	for shown := 0; shown < 1000; shown += 7 {
		for number := 0; number <= 1000; number += 3 {
			checkAdded(t, wantedStandard(1, 4, 3, shown), number)
		}
	}
}

func TestPromise6ManyNumbersOnLongFrames(t *testing.T) {
	random := rand.New(rand.NewSource(6))
	for range 4000 {
		rods := 4 + random.Intn(impl.MaxRods-3)
		limit := powerOf10(rods)
		f := standardFrames(rods, random.Intn(limit))[random.Intn(4)]
		room := limit - 1 - wantedNumber(f)
		for _, number := range []int{random.Intn(limit), random.Intn(room + 1), random.Intn(room+1) / powerOf10(random.Intn(rods)), room} {
			checkAdded(t, f, number)
		}
	}
}

func TestPromise6SumsWithAsManyDigitsAsRodsAndWithOneMore(t *testing.T) {
	for rods := 1; rods <= impl.MaxRods; rods++ {
		last := powerOf10(rods) - 1
		for _, shown := range []int{0, 1, 2, 5, 9, last / 2, last/2 + 1, last - 9, last - 1, last} {
			if shown > last || shown < 0 {
				continue
			}
			for _, f := range standardFrames(rods, shown) {
				room := last - shown
				for _, number := range []int{0, 1, room - 1, room, room + 1, room + 2, last, last + 1, 10 * last} {
					checkAdded(t, f, number)
				}
				for _, number := range append(numbersOutside(0, last), math.MaxInt-shown, math.MaxInt-shown+1, math.MinInt+shown) {
					checkNotAdded(t, f, number)
				}
			}
		}
	}
}

func TestPromise6ACarryOverManyNines(t *testing.T) {
	for rods := 1; rods <= impl.MaxRods; rods++ {
		for nines := range rods + 1 {
			shown := powerOf10(nines) - 1
			for front := range 10 {
				if nines == rods && front > 0 {
					continue
				}
				f := wantedStandard(1, 4, rods, shown+front*powerOf10(nines))
				for _, number := range []int{1, 2, 5, 9, 10, 11, 90, 99, shown, shown + 1, powerOf10(max(nines-1, 0))} {
					checkAdded(t, f, number)
				}
				for rod := range rods {
					for digit := range 10 {
						checkDigitAdded(t, f, rod, digit)
					}
				}
			}
		}
	}
}

func TestPromise6KnownCarriesOverManyNines(t *testing.T) {
	f := wantedStandard(1, 4, 8, 9999999)
	moves := "7u-1 7l-4 6u-1 6l-4 5u-1 5l-4 4u-1 4l-4 3u-1 3l-4 2u-1 2l-4 1u-1 1l-4 0l+1"
	got, ok := impl.AddDigitMoves(f, 7, 1)
	checkMoves(t, "1 is added to 9999999", got, ok, parsedMoves(t, moves), true)
	if n, ok := impl.CarriesOf(f, 1); !ok || n != 7 {
		t.Error("CarriesOf 9999999 and 1:", n, ok)
	}
	if n, ok := impl.LongestCarry(f, 7); !ok || n != 8 {
		t.Error("LongestCarry of 9999999:", n, ok)
	}
	kinds, ok := impl.KindsUsed(f, 1)
	checkInts(t, "KindsUsed for 9999999 and 1", kinds, ok, 0, 0, 1, 0)
	sum, ok := impl.AddDigit(f, 7, 1)
	checkFrame(t, "AddDigit 1 to 9999999", sum, ok, wantedStandard(1, 4, 8, 10000000), true)
	full := wantedStandard(1, 4, 8, 99999999)
	for rod := range 8 {
		checkNoDigitAdded(t, full, rod, 1)
		checkNoLongestCarry(t, full, rod)
	}
	checkNotAdded(t, full, 1)
	checkAdded(t, full, 0)
	checkAdded(t, wantedStandard(2, 5, 8, 49999999), 50000000)
	checkAdded(t, wantedStandard(2, 5, 8, 49999999), 50000001)
}

func TestPromise6KnownMovesForNumbers(t *testing.T) {
	for _, c := range []struct {
		from   string
		number int
		to     string
		moves  string
	}{
		{"1/4 03 13", 25, "1/4 11 03", "0u+1 0l-3 1u-1 0l+1"},
		{"1/4 00", 0, "1/4 00", ""},
		{"1/4 14", 0, "1/4 14", ""},
		{"1/4 00", 9, "1/4 14", "0u+1 0l+4"},
		{"1/4 00", 5, "1/4 10", "0u+1"},
		{"1/4 14", 1, "", ""},
		{"2/5 14", 1, "", ""},
		{"1/4 03", 4, "1/4 12", "0u+1 0l-1"},
		{"1/4 04", 1, "1/4 10", "0u+1 0l-4"},
		{"1/4 04", 5, "1/4 14", "0u+1"},
		{"1/4 04", 6, "", ""},
		{"1/4 00 04", 6, "1/4 01 00", "1l-4 0l+1"},
		{"1/4 00 11", 7, "1/4 01 03", "1u-1 1l+2 0l+1"},
		{"1/4 00 11", 4, "1/4 01 00", "1u-1 1l-1 0l+1"},
		{"1/4 00 11", 5, "1/4 01 01", "1u-1 0l+1"},
		{"1/4 00 11", 6, "1/4 01 02", "1u-1 1l+1 0l+1"},
		{"1/4 00 11", 8, "1/4 01 04", "1u-1 1l+3 0l+1"},
		{"1/4 00 10", 9, "1/4 01 04", "1u-1 1l+4 0l+1"},
		{"1/4 00 11", 9, "1/4 01 10", "1l-1 0l+1"},
		{"1/5 04 10", 5, "1/5 10 00", "1u-1 0u+1 0l-4"},
		{"2/4 04 14", 50, "2/4 14 14", "0u+1"},
		{"2/4 04 14", 51, "", ""},
		{"2/4 04 14", 1, "2/4 10 00", "1u-1 1l-4 0u+1 0l-4"},
		{"2/4 00 04 14 10", 506, "2/4 01 00 00 01", "1u+1 3u-1 3l+1 2u-1 2l-4 1u-1 1l-4 0l+1"},
		{"1/4 14 14 00", 5, "1/4 14 14 10", "2u+1"},
		{"1/4 00 14 14 10", 105, "1/4 01 01 00 00", "1u-1 1l-4 0l+1 3u-1 2u-1 2l-4 1l+1"},
		{"1/4 00 00 00", 20, "1/4 00 02 00", "1l+2"},
		{"1/4 00 00 00", 304, "1/4 03 00 04", "0l+3 2l+4"},
		{"1/4 01 01 01", 888, "1/4 14 14 14", "0u+1 0l+3 1u+1 1l+3 2u+1 2l+3"},
		{"1/4 01 01 01", 889, "", ""},
		{"1/4 12 12", 12, "1/4 13 14", "0l+1 1l+2"},
		{"1/4 00 00 00 00 00 00 00 01", 99999998, "1/4 14 14 14 14 14 14 14 14", "0u+1 0l+4 1u+1 1l+4 2u+1 2l+4 3u+1 3l+4 4u+1 4l+4 5u+1 5l+4 6u+1 6l+4 7u+1 7l+3"},
		{"1/4 00 00 00 00 00 00 00 01", 99999999, "", ""},
	} {
		f := parsedFrame(t, c.from)
		if c.to == "" {
			checkNotAdded(t, f, c.number)
			continue
		}
		sum, ok := impl.AddNumber(f, c.number)
		checkFrame(t, c.from+" and "+strconv.Itoa(c.number), sum, ok, parsedFrame(t, c.to), true)
		moves, ok := impl.AddNumberMoves(f, c.number)
		checkMoves(t, c.from+" and "+strconv.Itoa(c.number), moves, ok, parsedMoves(t, c.moves), true)
	}
}

func TestKnownCarriesAndKinds(t *testing.T) {
	for _, c := range []struct {
		shown, number int
		carries       int
		kinds         [4]int
	}{
		{38, 25, 1, [4]int{0, 1, 1, 0}},
		{0, 0, 0, [4]int{0, 0, 0, 0}},
		{999, 0, 0, [4]int{0, 0, 0, 0}},
		{0, 9999, 0, [4]int{4, 0, 0, 0}},
		{4, 1, 0, [4]int{0, 1, 0, 0}},
		{999, 1, 3, [4]int{0, 0, 1, 0}},
		{5, 6, 1, [4]int{0, 0, 0, 1}},
		{444, 111, 0, [4]int{0, 3, 0, 0}},
		{555, 666, 3, [4]int{0, 0, 0, 3}},
		{555, 606, 2, [4]int{0, 0, 0, 2}},
		{1356, 1436, 1, [4]int{2, 1, 0, 1}},
		{995, 5, 3, [4]int{0, 0, 1, 0}},
		{945, 55, 3, [4]int{1, 0, 1, 0}},
		{990, 1010, 2, [4]int{1, 0, 1, 0}},
		{5049, 4951, 4, [4]int{3, 0, 1, 0}},
	} {
		for _, f := range standardFrames(5, c.shown) {
			if n, ok := impl.CarriesOf(f, c.number); !ok || n != c.carries {
				t.Errorf("CarriesOf %d and %d = %d, %v; want %d", c.shown, c.number, n, ok, c.carries)
			}
			kinds, ok := impl.KindsUsed(f, c.number)
			checkInts(t, "KindsUsed", kinds, ok, c.kinds[:]...)
		}
	}
}

// wantedLongest counts the nines from a rod to the left, and the rod that ends them.
func wantedLongest(f impl.Frame, rod int) (int, bool) {
	values := paddedDigits(len(f.Rods), wantedNumber(f))
	for n := 0; rod-n >= 0; n++ {
		if values[rod-n] != 9 {
			return n + 1, true
		}
	}
	return 0, false
}

// checkLongestCarry tests how many rods have another value after 1 is added to a rod of a
// standard frame.
func checkLongestCarry(t *testing.T, f impl.Frame, rod int) {
	t.Helper()
	want, there := wantedLongest(f, rod)
	n, ok := impl.LongestCarry(f, rod)
	if ok != there || n != want {
		t.Errorf("LongestCarry(%v, %d) = %d, %v; want %d, %v", f, rod, n, ok, want, there)
	}
	if !there {
		return
	}
	sum, ok := impl.AddDigit(f, rod, 1)
	changed := 0
	for i := range sum.Rods {
		if sum.Rods[i] != f.Rods[i] {
			changed++
		}
	}
	if !ok || changed != n {
		t.Errorf("%d rods of %v differ from %v, %v; LongestCarry is %d", changed, sum, f, ok, n)
	}
}

func TestLongestCarries(t *testing.T) {
	for rods := 1; rods <= 3; rods++ {
		for number := range powerOf10(rods) {
			for _, f := range standardFrames(rods, number) {
				for rod := range rods {
					checkLongestCarry(t, f, rod)
				}
			}
		}
	}
	for rods := 1; rods <= impl.MaxRods; rods++ {
		for _, f := range standardFrames(rods, powerOf10(rods)-1) {
			for cut := range rods {
				for _, rod := range [][2]int{{1, 3}, {0, 0}, {0, 4}, {1, 4}} {
					g := cloneFrame(f)
					g.Rods[cut] = rod
					for at := range rods {
						checkLongestCarry(t, g, at)
					}
				}
			}
		}
	}
}

func TestKnownLongestCarries(t *testing.T) {
	for _, c := range []struct {
		frame string
		rod   int
		want  int
	}{{"1/4 01 14 14", 2, 3}, {"1/4 01 14 14", 1, 2}, {"1/4 01 14 14", 0, 1}, {"1/4 00", 0, 1}, {"1/4 13", 0, 1}, {"1/4 14 13", 1, 1}, {"1/4 00 14 04 14", 3, 2}, {"2/5 13 14 14 14 14 14 14 14", 7, 8}} {
		if n, ok := impl.LongestCarry(parsedFrame(t, c.frame), c.rod); !ok || n != c.want {
			t.Errorf("LongestCarry(%s, %d) = %d, %v; want %d", c.frame, c.rod, n, ok, c.want)
		}
	}
	for text, rod := range map[string]int{"1/4 14": 0, "1/4 14 13": 0, "1/4 14 14 04": 1, "2/5 14 14": 1} {
		checkNoLongestCarry(t, parsedFrame(t, text), rod)
	}
}

func TestPromise6NothingIsAddedToRodsThatDoNotExist(t *testing.T) {
	for rods := 1; rods <= impl.MaxRods; rods++ {
		for _, number := range []int{0, powerOf10(rods) - 1} {
			for _, f := range standardFrames(rods, number) {
				for _, rod := range append(numbersOutside(0, rods-1), impl.MaxRods) {
					for _, digit := range []int{math.MinInt, -1, 0, 1, 5, 9, 10, math.MaxInt} {
						checkNoDigitAdded(t, f, rod, digit)
					}
					checkNoLongestCarry(t, f, rod)
				}
			}
		}
	}
}

func TestPromise6OnlyDigitsAreAddedToRods(t *testing.T) {
	for rods := 1; rods <= impl.MaxRods; rods++ {
		for _, f := range standardFrames(rods, 0) {
			for rod := range rods {
				for _, digit := range numbersOutside(0, 9) {
					checkNoDigitAdded(t, f, rod, digit)
				}
			}
		}
	}
}

// checkNothingAdded tests that no function adds to a frame.
func checkNothingAdded(t *testing.T, f impl.Frame) {
	t.Helper()
	for _, number := range []int{math.MinInt, -1, 0, 1, 5, 10, 1 << 40, math.MaxInt} {
		checkNotAdded(t, f, number)
	}
	for _, rod := range []int{math.MinInt, -1, 0, 1, len(f.Rods) - 1, len(f.Rods), math.MaxInt} {
		for _, digit := range []int{math.MinInt, -1, 0, 1, 9, 10, math.MaxInt} {
			checkNoDigitAdded(t, f, rod, digit)
		}
		checkNoLongestCarry(t, f, rod)
	}
}

func TestPromise6NothingIsAddedToFramesThatAreNotStandard(t *testing.T) {
	others := 0
	for _, f := range append(shortFrames(2), longFrames()...) {
		if !isStandardFrame(f) {
			others++
			checkNothingAdded(t, f)
		}
	}
	if others < 100 {
		t.Error("only", others, "frames were not standard")
	}
}

func TestPromise6NothingIsAddedToInvalidFrames(t *testing.T) {
	for _, f := range invalidFrames() {
		checkNothingAdded(t, f)
	}
}

// longestMoves returns the length of the longest list of moves for two numbers on some rods.
func longestMoves(rods int) int {
	longest := 0
	for shown := range powerOf10(rods) {
		f := wantedStandard(1, 4, rods, shown)
		for number := range powerOf10(rods) - shown {
			moves, _ := impl.AddNumberMoves(f, number)
			longest = max(longest, len(moves))
		}
	}
	return longest
}

// A digit moves two parts at most, and so does the 1 that is carried to its rod, which no rod
// gets twice. So each rod more brings four moves more, and MaxMoves are never reached.
func TestPromise6NoNumberNeedsMaxMoves(t *testing.T) {
	for i, want := range []int{2, 5, 9} {
		if n := longestMoves(i + 1); n != want {
			t.Errorf("on %d rods, the longest list has %d moves; want %d", i+1, n, want)
		}
	}
	f := parsedFrame(t, "1/4 00 00 00 00 00 00 00 10")
	moves, ok := impl.AddNumberMoves(f, 49999996)
	checkMoves(t, "49999996 is added to 5", moves, ok, parsedMoves(t, "0l+4 1u+1 1l+4 2u+1 2l+4 3u+1 3l+4 4u+1 4l+4 5u+1 5l+4 6u+1 6l+4 7u-1 7l+1 6u-1 6l-4 5u-1 5l-4 4u-1 4l-4 3u-1 3l-4 2u-1 2l-4 1u-1 1l-4 0u+1 0l-4"), true)
	if len(moves) != 29 || impl.MaxMoves != 60 {
		t.Error("moves", len(moves), impl.MaxMoves)
	}
	for _, number := range []int{9999995, 44444444, 45555555, 49999994, 49999995, 49999997, 94444444, 99999994} {
		for _, g := range append(standardFrames(8, 5), standardFrames(8, 5555555)...) {
			checkAdded(t, g, number)
		}
	}
}

// callAddingFunctions calls each function and returns the frames, the moves and the kinds among
// the results.
func callAddingFunctions(f impl.Frame, rod, digit, number int) ([]impl.Frame, [][]impl.BeadMove, []int) {
	impl.KindOfAdd(rod, digit)
	impl.CarriesOf(f, number)
	impl.LongestCarry(f, rod)
	byDigit, _ := impl.AddDigit(f, rod, digit)
	unchanged, _ := impl.AddDigit(f, rod, 0)
	byNumber, _ := impl.AddNumber(f, number)
	same, _ := impl.AddNumber(f, 0)
	digitMoves, _ := impl.AddDigitMoves(f, rod, digit)
	numberMoves, _ := impl.AddNumberMoves(f, number)
	kinds, _ := impl.KindsUsed(f, number)
	return []impl.Frame{byDigit, unchanged, byNumber, same}, [][]impl.BeadMove{digitMoves, numberMoves}, kinds
}

func TestPromise29AddingFunctionsReturnForAllArguments(t *testing.T) {
	numbers := []int{math.MinInt, math.MinInt + 1, -1 << 32, -1, 0, 1, 5, 8, 9, 10, 99999999, 100000000, 1 << 32, math.MaxInt - 99999999, math.MaxInt}
	frames := append(invalidFrames()[:40], longFrames()...)
	frames = append(frames, shortFrames(1)...)
	frames = append(frames, repeatedFrame(math.MaxInt, math.MinInt, [2]int{math.MinInt, math.MaxInt}, 1<<16), repeatedFrame(1, 4, [2]int{math.MaxInt, math.MaxInt}, 8))
	for i, f := range frames {
		for j, a := range numbers {
			for k, b := range numbers {
				callAddingFunctions(f, a, b, numbers[(i+j+k)%len(numbers)])
			}
		}
	}
}

func TestPromise29AddingFunctionsModifyNothing(t *testing.T) {
	for _, text := range []string{"1/4 00 14 14", "1/4 03 13 11", "2/5 00 00 00", "1/5 12 00 14"} {
		for rod := range 3 {
			for digit := range 10 {
				memory := append(parsedFrame(t, text).Rods, [2]int{7, 7}, [2]int{-1, 9})
				before := slices.Clone(memory)
				f := parsedFrame(t, text)
				f.Rods = memory[:3]
				frames, lists, kinds := callAddingFunctions(f, rod, digit, digit*powerOf10(2-rod))
				if !slices.Equal(memory, before) {
					t.Errorf("%s: the memory of the argument is now %v", text, memory)
				}
				var keptFrames []impl.Frame
				for _, x := range frames {
					keptFrames = append(keptFrames, cloneFrame(x))
				}
				keptLists := [][]impl.BeadMove{slices.Clone(lists[0]), slices.Clone(lists[1])}
				keptKinds := slices.Clone(kinds)
				for i := range memory {
					memory[i] = [2]int{5, 5}
				}
				if !slices.EqualFunc(frames, keptFrames, sameFrame) || !slices.EqualFunc(lists, keptLists, slices.Equal[[]impl.BeadMove]) || !slices.Equal(kinds, keptKinds) {
					t.Errorf("%s: results changed with the argument", text)
				}
			}
		}
	}
}

func TestPromise29ResultsOfAddingShareNoMemory(t *testing.T) {
	f := parsedFrame(t, "1/4 00 14 11")
	frames, lists, kinds := callAddingFunctions(f, 2, 7, 25)
	againFrames, againLists, againKinds := callAddingFunctions(f, 2, 7, 25)
	checkListsApart(t, [][]int{kinds, againKinds})
	frames = append(frames, againFrames...)
	for i, x := range frames {
		for rod := range x.Rods {
			x.Rods[rod] = [2]int{9, 10 + i}
		}
		for j, y := range frames {
			if j != i && slices.Contains(y.Rods, [2]int{9, 10 + i}) {
				t.Errorf("the frames %d and %d share memory", i, j)
			}
		}
	}
	lists = append(lists, againLists...)
	for i, x := range lists {
		for at := range x {
			x[at] = impl.BeadMove{Rod: 9, Part: 9, By: 10 + i}
		}
		for j, y := range lists {
			if j != i && slices.Contains(y, impl.BeadMove{Rod: 9, Part: 9, By: 10 + i}) {
				t.Errorf("the lists %d and %d share memory", i, j)
			}
		}
	}
	if !sameFrame(f, parsedFrame(t, "1/4 00 14 11")) {
		t.Error("the argument shares memory with a result:", f)
	}
	if kind, ok := impl.KindOfAdd(6, 7); !ok || kind != "both" {
		t.Error("KindOfAdd after results were changed:", kind, ok)
	}
}
