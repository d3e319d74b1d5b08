package tests

import (
	"math"
	"math/rand"
	"slices"
	"strconv"
	"testing"

	"loop.example/g01006/impl"
)

// wantedTakenDigit takes a digit from a list of values by the rule as it is told.
func wantedTakenDigit(values []int, rod, digit int) []impl.BeadMove {
	before := values[rod]
	if before >= digit {
		values[rod] = before - digit
		return beadsMoved(rod, values[rod]/5-before/5, values[rod]%5-before%5)
	}
	values[rod] = before + 10 - digit
	own := beadsMoved(rod, values[rod]/5-before/5, values[rod]%5-before%5)
	return append(own, wantedTakenDigit(values, rod-1, 1)...)
}

// wantedTakenMoves takes a number that can be taken from a standard frame digit by digit.
func wantedTakenMoves(f impl.Frame, number int) []impl.BeadMove {
	moves := []impl.BeadMove{}
	values := paddedDigits(len(f.Rods), wantedNumber(f))
	for rod, digit := range paddedDigits(len(f.Rods), number) {
		if digit != 0 {
			moves = append(moves, wantedTakenDigit(values, rod, digit)...)
		}
	}
	return moves
}

// checkNoNumberTaken tests that a number cannot be taken from a frame.
func checkNoNumberTaken(t *testing.T, f impl.Frame, number int) {
	t.Helper()
	left, ok := impl.TakeNumber(f, number)
	checkFrame(t, "TakeNumber "+strconv.Itoa(number), left, ok, impl.Frame{}, false)
	moves, ok := impl.TakeNumberMoves(f, number)
	checkMoves(t, "TakeNumberMoves "+strconv.Itoa(number), moves, ok, nil, false)
	if n, ok := impl.BorrowsOf(f, number); ok || n != 0 {
		t.Errorf("BorrowsOf(%v, %d) = %d, %v", f, number, n, ok)
	}
}

// checkNumberTaken tests that a number is taken from a standard frame if it is at most the number on
// it, and not at all otherwise.
func checkNumberTaken(t *testing.T, f impl.Frame, number int) {
	t.Helper()
	shown := wantedNumber(f)
	if number < 0 || number > shown {
		checkNoNumberTaken(t, f, number)
		return
	}
	before := cloneFrame(f)
	what := strconv.Itoa(number) + " from " + strconv.Itoa(shown)
	left, ok := impl.TakeNumber(f, number)
	checkFrame(t, "TakeNumber "+what, left, ok, wantedStandard(f.Upper, f.Lower, len(f.Rods), shown-number), true)
	moves, ok := impl.TakeNumberMoves(f, number)
	checkMoves(t, "TakeNumberMoves "+what, moves, ok, wantedTakenMoves(f, number), true)
	checkMovesEnd(t, f, moves, shown-number)
	if n, ok := impl.BorrowsOf(f, number); !ok || n != (digitSum(number)+digitSum(shown-number)-digitSum(shown))/9 {
		t.Errorf("BorrowsOf %s = %d, %v", what, n, ok)
	}
	if !sameFrame(f, before) {
		t.Errorf("%v was changed to %v", before, f)
	}
}

// checkNoDigitTaken tests that a digit cannot be taken from a rod.
func checkNoDigitTaken(t *testing.T, f impl.Frame, rod, digit int) {
	t.Helper()
	what := strconv.Itoa(digit) + " from rod " + strconv.Itoa(rod)
	left, ok := impl.TakeDigit(f, rod, digit)
	checkFrame(t, "TakeDigit "+what, left, ok, impl.Frame{}, false)
	moves, ok := impl.TakeDigitMoves(f, rod, digit)
	checkMoves(t, "TakeDigitMoves "+what, moves, ok, nil, false)
}

// checkDigitTaken tests that a digit in 0..9 is taken from a rod of a standard frame if, with
// zeros at its right, it is at most the number on it, and not at all otherwise.
func checkDigitTaken(t *testing.T, f impl.Frame, rod, digit int) {
	t.Helper()
	number := digit * powerOf10(len(f.Rods)-1-rod)
	end := wantedNumber(f) - number
	if end < 0 {
		checkNoDigitTaken(t, f, rod, digit)
		return
	}
	what := strconv.Itoa(digit) + " from rod " + strconv.Itoa(rod) + " of " + strconv.Itoa(wantedNumber(f))
	left, ok := impl.TakeDigit(f, rod, digit)
	checkFrame(t, "TakeDigit "+what, left, ok, wantedStandard(f.Upper, f.Lower, len(f.Rods), end), true)
	moves, ok := impl.TakeDigitMoves(f, rod, digit)
	checkMoves(t, "TakeDigitMoves "+what, moves, ok, wantedTakenMoves(f, number), true)
	checkMovesEnd(t, f, moves, end)
}

// checkTakenAgain tests that a frame is as it was when a number, which can be added to it, is
// added and taken again, also by the moves for both.
func checkTakenAgain(t *testing.T, f impl.Frame, number int) {
	t.Helper()
	what := strconv.Itoa(number) + " added to " + strconv.Itoa(wantedNumber(f)) + " and taken again"
	sum, ok := impl.AddNumber(f, number)
	there, fine := impl.AddNumberMoves(f, number)
	if !ok || !fine {
		t.Fatal(what, "could not be added")
	}
	left, ok := impl.TakeNumber(sum, number)
	checkFrame(t, what, left, ok, f, true)
	back, ok := impl.TakeNumberMoves(sum, number)
	end, fine := impl.PlayMoves(f, append(there, back...))
	checkFrame(t, what+" by moves", end, ok && fine, f, true)
	carries, ok := impl.CarriesOf(f, number)
	borrows, fine := impl.BorrowsOf(sum, number)
	if !ok || !fine || carries != borrows {
		t.Errorf("%s: %d carries and %d borrows, %v, %v", what, carries, borrows, ok, fine)
	}
}

// checkDigitTakenAgain tests that a frame is as it was when a digit is added and taken again, if
// it can be added.
func checkDigitTakenAgain(t *testing.T, f impl.Frame, rod, digit int) {
	t.Helper()
	what := strconv.Itoa(digit) + " added to rod " + strconv.Itoa(rod) + " of " + strconv.Itoa(wantedNumber(f)) + " and taken again"
	sum, ok := impl.AddDigit(f, rod, digit)
	if !ok {
		return
	}
	there, _ := impl.AddDigitMoves(f, rod, digit)
	left, ok := impl.TakeDigit(sum, rod, digit)
	checkFrame(t, what, left, ok, f, true)
	back, ok := impl.TakeDigitMoves(sum, rod, digit)
	end, fine := impl.PlayMoves(f, append(there, back...))
	checkFrame(t, what+" by moves", end, ok && fine, f, true)
}

func TestPromise8TakingWhatWasAddedLeavesTheFrame(t *testing.T) {
	for rods := 1; rods <= 2; rods++ {
		limit := powerOf10(rods)
		for shown := range limit {
			for _, f := range standardFrames(rods, shown) {
				for number := range limit - shown {
					checkTakenAgain(t, f, number)
				}
			}
		}
	}
	random := rand.New(rand.NewSource(88))
	for range 4000 {
		rods := 3 + random.Intn(impl.MaxRods-2)
		limit := powerOf10(rods)
		f := standardFrames(rods, random.Intn(limit))[random.Intn(4)]
		room := limit - 1 - wantedNumber(f)
		for _, number := range []int{0, random.Intn(room + 1), random.Intn(room+1) / powerOf10(random.Intn(rods)), room} {
			checkTakenAgain(t, f, number)
		}
	}
}

func TestPromise8TakingAnAddedDigitLeavesTheFrame(t *testing.T) {
	for rods := 1; rods <= 3; rods++ {
		for shown := range powerOf10(rods) {
			for _, f := range standardFrames(rods, shown) {
				for rod := range rods {
					for digit := range 10 {
						checkDigitTakenAgain(t, f, rod, digit)
					}
				}
			}
		}
	}
	for _, f := range longFrames() {
		for rod := range f.Rods {
			for digit := range 10 {
				checkDigitTakenAgain(t, f, rod, digit)
			}
		}
	}
}

func TestPromise8AddingWhatWasTakenLeavesTheFrame(t *testing.T) {
	random := rand.New(rand.NewSource(888))
	for range 4000 {
		rods := 1 + random.Intn(impl.MaxRods)
		f := standardFrames(rods, random.Intn(powerOf10(rods)))[random.Intn(4)]
		number := random.Intn(wantedNumber(f)+1) / powerOf10(random.Intn(rods))
		left, ok := impl.TakeNumber(f, number)
		if !ok {
			t.Fatal(number, "cannot be taken from", f)
		}
		sum, ok := impl.AddNumber(left, number)
		checkFrame(t, strconv.Itoa(number)+" taken and added again", sum, ok, f, true)
	}
}

func TestPromise8AllDigitsFromAllRods(t *testing.T) {
	for rods := 1; rods <= 3; rods++ {
		for number := range powerOf10(rods) {
			for _, f := range standardFrames(rods, number) {
				for rod := range rods {
					for digit := range 10 {
						checkDigitTaken(t, f, rod, digit)
					}
				}
			}
		}
	}
}

func TestPromise8DigitsFromTheRodsOfLongFrames(t *testing.T) {
	for _, f := range longFrames() {
		for rod := range f.Rods {
			for digit := range 10 {
				if isStandardFrame(f) {
					checkDigitTaken(t, f, rod, digit)
				} else {
					checkNoDigitTaken(t, f, rod, digit)
				}
			}
		}
	}
}

func TestPromise8AllShortNumbers(t *testing.T) {
	for rods := 1; rods <= 2; rods++ {
		for shown := range powerOf10(rods) {
			for _, f := range standardFrames(rods, shown) {
				for number := -2; number <= powerOf10(rods)+2; number++ {
					checkNumberTaken(t, f, number)
				}
			}
		}
	}
	// The steps have no factor in common with 10, so that all digits come together.
	for shown := 0; shown < 1000; shown += 7 {
		for number := 0; number <= 1000; number += 3 {
			checkNumberTaken(t, wantedStandard(1, 4, 3, shown), number)
		}
	}
}

func TestPromise8ManyNumbersFromLongFrames(t *testing.T) {
	random := rand.New(rand.NewSource(8))
	for range 4000 {
		rods := 4 + random.Intn(impl.MaxRods-3)
		limit := powerOf10(rods)
		f := standardFrames(rods, random.Intn(limit))[random.Intn(4)]
		shown := wantedNumber(f)
		for _, number := range []int{random.Intn(limit), random.Intn(shown + 1), random.Intn(shown+1) / powerOf10(random.Intn(rods)), shown} {
			checkNumberTaken(t, f, number)
		}
	}
}

func TestPromise8NumbersAsGreatAsThatOnTheFrameAndOneMore(t *testing.T) {
	for rods := 1; rods <= impl.MaxRods; rods++ {
		last := powerOf10(rods) - 1
		for _, shown := range []int{0, 1, 2, 5, 9, last / 2, last/2 + 1, last - 9, last - 1, last} {
			for _, f := range standardFrames(rods, shown) {
				for _, number := range []int{0, 1, shown - 1, shown, shown + 1, shown + 2, last, last + 1, 10 * last} {
					checkNumberTaken(t, f, number)
				}
				for _, number := range append(numbersOutside(0, shown), math.MinInt+shown, math.MaxInt-shown) {
					checkNoNumberTaken(t, f, number)
				}
			}
		}
	}
}

func TestPromise8ABorrowOverManyZeros(t *testing.T) {
	for rods := 1; rods <= impl.MaxRods; rods++ {
		for zeros := range rods {
			for front := range 10 {
				f := wantedStandard(1, 4, rods, front*powerOf10(zeros))
				for _, number := range []int{1, 2, 5, 9, 10, 11, 90, 99, powerOf10(zeros) - 1, powerOf10(zeros), powerOf10(zeros) + 1, powerOf10(max(zeros-1, 0))} {
					checkNumberTaken(t, f, number)
				}
				for rod := range rods {
					for digit := range 10 {
						checkDigitTaken(t, f, rod, digit)
					}
				}
			}
		}
	}
}

func TestPromise8KnownBorrowsOverZeros(t *testing.T) {
	f := wantedStandard(1, 4, 8, 10000000)
	moves := "7u+1 7l+4 6u+1 6l+4 5u+1 5l+4 4u+1 4l+4 3u+1 3l+4 2u+1 2l+4 1u+1 1l+4 0l-1"
	got, ok := impl.TakeDigitMoves(f, 7, 1)
	checkMoves(t, "1 is taken from 10000000", got, ok, parsedMoves(t, moves), true)
	got, ok = impl.TakeNumberMoves(f, 1)
	checkMoves(t, "the number 1 is taken from 10000000", got, ok, parsedMoves(t, moves), true)
	left, ok := impl.TakeDigit(f, 7, 1)
	checkFrame(t, "TakeDigit 1 from 10000000", left, ok, wantedStandard(1, 4, 8, 9999999), true)
	if n, ok := impl.BorrowsOf(f, 1); !ok || n != 7 {
		t.Error("BorrowsOf 10000000 and 1:", n, ok)
	}
	checkNumberTaken(t, f, 10000000)
	checkNoNumberTaken(t, f, 10000001)
	checkNoDigitTaken(t, f, 0, 2)
	checkNumberTaken(t, wantedStandard(2, 5, 8, 50000000), 49999999)
	checkNumberTaken(t, wantedStandard(2, 5, 8, 50000000), 50000001)
	empty := wantedStandard(1, 4, 8, 0)
	for rod := range 8 {
		checkNoDigitTaken(t, empty, rod, 1)
		left, ok := impl.TakeDigit(empty, rod, 0)
		checkFrame(t, "0 is taken from an empty rod", left, ok, empty, true)
	}
	checkNoNumberTaken(t, empty, 1)
	checkNumberTaken(t, empty, 0)
}

func TestPromise8KnownMovesForNumbers(t *testing.T) {
	for _, c := range []struct {
		from   string
		number int
		to     string
		moves  string
	}{
		{"1/4 11 03", 25, "1/4 03 13", "0u-1 0l+3 1u+1 0l-1"},
		{"1/4 00", 0, "1/4 00", ""},
		{"1/4 14", 0, "1/4 14", ""},
		{"1/4 00", 1, "", ""},
		{"1/4 14", -1, "", ""},
		{"1/4 14", 9, "1/4 00", "0u-1 0l-4"},
		{"1/4 14", 10, "", ""},
		{"1/4 10", 5, "1/4 00", "0u-1"},
		{"1/4 10", 1, "1/4 04", "0u-1 0l+4"},
		{"2/5 10", 1, "2/5 04", "0u-1 0l+4"},
		{"1/4 12", 3, "1/4 04", "0u-1 0l+2"},
		{"1/4 12", 6, "1/4 01", "0u-1 0l-1"},
		{"1/4 12", 2, "1/4 10", "0l-2"},
		{"1/4 03", 3, "1/4 00", "0l-3"},
		{"1/4 03", 4, "", ""},
		{"1/4 01 00", 1, "1/4 00 14", "1u+1 1l+4 0l-1"},
		{"1/4 01 00", 5, "1/4 00 10", "1u+1 0l-1"},
		{"1/4 01 00", 6, "1/4 00 04", "1l+4 0l-1"},
		{"1/4 01 00", 10, "1/4 00 00", "0l-1"},
		{"1/4 01 00", 11, "", ""},
		{"1/4 01 03", 4, "1/4 00 14", "1u+1 1l+1 0l-1"},
		{"1/4 01 03", 8, "1/4 00 10", "1u+1 1l-3 0l-1"},
		{"1/4 01 13", 9, "1/4 00 14", "1l+1 0l-1"},
		{"1/4 10 00", 1, "1/4 04 14", "1u+1 1l+4 0u-1 0l+4"},
		{"1/5 11 00", 1, "1/5 10 14", "1u+1 1l+4 0l-1"},
		{"2/4 04 14", 49, "2/4 00 00", "0l-4 1u-1 1l-4"},
		{"2/4 04 14", 50, "", ""},
		{"1/4 01 00 00 00", 1, "1/4 00 14 14 14", "3u+1 3l+4 2u+1 2l+4 1u+1 1l+4 0l-1"},
		{"1/4 01 00 00 00", 10, "1/4 00 14 14 00", "2u+1 2l+4 1u+1 1l+4 0l-1"},
		{"1/4 01 00 00 00", 506, "1/4 00 04 14 04", "1u+1 0l-1 3l+4 2u+1 2l+4 1u-1 1l+4"},
		{"1/4 01 00 00 00", 999, "1/4 00 00 00 01", "1l+1 0l-1 2l+1 1l-1 3l+1 2l-1"},
		{"1/5 02 00 03", 104, "1/5 00 14 14", "0l-1 2u+1 2l+1 1u+1 1l+4 0l-1"},
		{"1/4 03 00 04", 304, "1/4 00 00 00", "0l-3 2l-4"},
		{"1/4 03 00 04", 305, "", ""},
		{"1/4 14 14 14", 20, "1/4 14 12 14", "1l-2"},
		{"1/4 14 14 14", 888, "1/4 01 01 01", "0u-1 0l-3 1u-1 1l-3 2u-1 2l-3"},
		{"1/4 14 14 14 14 14 14 14 14", 99999998, "1/4 00 00 00 00 00 00 00 01", "0u-1 0l-4 1u-1 1l-4 2u-1 2l-4 3u-1 3l-4 4u-1 4l-4 5u-1 5l-4 6u-1 6l-4 7u-1 7l-3"},
		{"1/4 14 14 14 14 14 14 14 14", 100000000, "", ""},
	} {
		f := parsedFrame(t, c.from)
		if c.to == "" {
			checkNoNumberTaken(t, f, c.number)
			continue
		}
		left, ok := impl.TakeNumber(f, c.number)
		checkFrame(t, c.from+" less "+strconv.Itoa(c.number), left, ok, parsedFrame(t, c.to), true)
		moves, ok := impl.TakeNumberMoves(f, c.number)
		checkMoves(t, c.from+" less "+strconv.Itoa(c.number), moves, ok, parsedMoves(t, c.moves), true)
	}
}

func TestPromise8KnownMovesForDigits(t *testing.T) {
	for _, c := range []struct {
		from       string
		rod, digit int
		to         string
		moves      string
	}{
		{"1/4 04 02", 1, 4, "1/4 03 13", "1u+1 1l+1 0l-1"},
		{"1/4 04 02", 0, 4, "1/4 00 02", "0l-4"},
		{"1/4 04 02", 0, 5, "", ""},
		{"1/4 04 02", 1, 0, "1/4 04 02", ""},
		{"1/4 00 02", 0, 0, "1/4 00 02", ""},
		{"1/4 00 02", 1, 2, "1/4 00 00", "1l-2"},
		{"1/4 00 02", 1, 3, "", ""},
		{"1/4 00 14 14", 0, 1, "", ""},
		{"1/4 00 14 14", 1, 9, "1/4 00 00 14", "1u-1 1l-4"},
		{"2/5 01 00 00", 1, 9, "2/5 00 01 00", "1l+1 0l-1"},
		{"2/5 01 00 00", 2, 9, "2/5 00 14 01", "2l+1 1u+1 1l+4 0l-1"},
		{"2/5 11 00 12", 2, 8, "2/5 10 14 14", "2l+2 1u+1 1l+4 0l-1"},
	} {
		f := parsedFrame(t, c.from)
		if c.to == "" {
			checkNoDigitTaken(t, f, c.rod, c.digit)
			continue
		}
		what := c.from + " less " + strconv.Itoa(c.digit) + " from rod " + strconv.Itoa(c.rod)
		left, ok := impl.TakeDigit(f, c.rod, c.digit)
		checkFrame(t, what, left, ok, parsedFrame(t, c.to), true)
		moves, ok := impl.TakeDigitMoves(f, c.rod, c.digit)
		checkMoves(t, what, moves, ok, parsedMoves(t, c.moves), true)
	}
}

func TestKnownBorrows(t *testing.T) {
	for _, c := range [][3]int{{63, 25, 1}, {0, 0, 0}, {999, 0, 0}, {9999, 9999, 0}, {10, 1, 1}, {1000, 1, 3}, {1000, 506, 3}, {1000, 999, 3}, {1000, 990, 2}, {203, 104, 2}, {555, 333, 0}, {1555, 666, 3}, {1555, 606, 2}, {10101, 2020, 2}, {90000, 1, 4}, {90000, 10, 3}, {90000, 89999, 4}} {
		for _, f := range standardFrames(5, c[0]) {
			if n, ok := impl.BorrowsOf(f, c[1]); !ok || n != c[2] {
				t.Errorf("BorrowsOf %d and %d = %d, %v; want %d", c[0], c[1], n, ok, c[2])
			}
		}
	}
}

func TestPromise8NothingIsTakenFromRodsThatDoNotExist(t *testing.T) {
	for rods := 1; rods <= impl.MaxRods; rods++ {
		for _, number := range []int{0, powerOf10(rods) - 1} {
			for _, f := range standardFrames(rods, number) {
				for _, rod := range append(numbersOutside(0, rods-1), impl.MaxRods) {
					for _, digit := range []int{math.MinInt, -1, 0, 1, 5, 9, 10, math.MaxInt} {
						checkNoDigitTaken(t, f, rod, digit)
					}
				}
			}
		}
	}
}

func TestPromise8OnlyDigitsAreTakenFromRods(t *testing.T) {
	for rods := 1; rods <= impl.MaxRods; rods++ {
		for _, number := range []int{0, powerOf10(rods - 1), powerOf10(rods) - 1} {
			for _, f := range standardFrames(rods, number) {
				for rod := range rods {
					for _, digit := range numbersOutside(0, 9) {
						checkNoDigitTaken(t, f, rod, digit)
					}
				}
			}
		}
	}
}

// wantedCountDown takes a step, at least 1, from a number again and again, but not more than some
// times, and returns what is left each time.
func wantedCountDown(number, step, most int) []int {
	left := []int{}
	for number >= step && len(left) < most {
		number -= step
		left = append(left, number)
	}
	return left
}

// checkNoSteps tests that a step can neither be counted nor have a multiple.
func checkNoSteps(t *testing.T, f impl.Frame, step int) {
	t.Helper()
	if n, ok := impl.HowOften(f, step); ok || n != 0 {
		t.Errorf("HowOften(%v, %d) = %d, %v", f, step, n, ok)
	}
	if list, ok := impl.CountDown(f, step); ok || len(list) != 0 {
		t.Errorf("CountDown(%v, %d) = %v, %v", f, step, list, ok)
	}
	nearest, ok := impl.NearestBelow(f, step)
	checkFrame(t, "NearestBelow with the step "+strconv.Itoa(step), nearest, ok, impl.Frame{}, false)
}

// checkSteps tests how often a step, at least 1, can be taken from a standard frame, what is left
// each time, and the multiple that all of them make.
func checkSteps(t *testing.T, f impl.Frame, step int) {
	t.Helper()
	before := cloneFrame(f)
	shown := wantedNumber(f)
	what := "the step " + strconv.Itoa(step) + " from " + strconv.Itoa(shown)
	left := wantedCountDown(shown, step, 100001)
	times, ok := impl.HowOften(f, step)
	if len(left) <= 100000 && (!ok || times != len(left)) || len(left) > 100000 && (ok || times != 0) {
		t.Errorf("HowOften, %s: %d, %v; want %d", what, times, ok, len(left))
	}
	list, ok := impl.CountDown(f, step)
	if len(left) <= 50 {
		checkInts(t, "CountDown, "+what, list, ok, left...)
	} else if ok || len(list) != 0 {
		t.Errorf("CountDown, %s: %v, %v", what, list, ok)
	}
	nearest, ok := impl.NearestBelow(f, step)
	checkFrame(t, "NearestBelow, "+what, nearest, ok, wantedStandard(f.Upper, f.Lower, len(f.Rods), shown-shown%step), true)
	if !sameFrame(f, before) {
		t.Errorf("%v was changed to %v", before, f)
	}
}

func TestStepsFromAllShortNumbers(t *testing.T) {
	for rods := 1; rods <= 2; rods++ {
		for shown := range powerOf10(rods) {
			for _, f := range standardFrames(rods, shown) {
				for step := 1; step <= powerOf10(rods)+2; step++ {
					checkSteps(t, f, step)
				}
			}
		}
	}
	for shown := 0; shown < 1000; shown += 7 {
		for step := 1; step <= 1001; step += 4 {
			checkSteps(t, wantedStandard(2, 5, 3, shown), step)
		}
	}
}

func TestStepsFromLongNumbers(t *testing.T) {
	random := rand.New(rand.NewSource(80))
	for range 300 {
		rods := 4 + random.Intn(impl.MaxRods-3)
		f := standardFrames(rods, random.Intn(powerOf10(rods)))[random.Intn(4)]
		shown := wantedNumber(f)
		for _, step := range []int{1 + random.Intn(powerOf10(rods)), max(shown/50, 1), shown/51 + 1, max(shown/100000, 1), shown/100001 + 1, max(shown-1, 1), shown + 1, math.MaxInt} {
			checkSteps(t, f, step)
		}
	}
}

func TestHowOftenUpToItsLimit(t *testing.T) {
	for _, c := range []struct {
		shown, number, want int
		there               bool
	}{
		{63, 7, 9, true}, {63, 8, 7, true}, {63, 63, 1, true}, {63, 64, 0, true}, {63, math.MaxInt, 0, true}, {0, 1, 0, true}, {9, 1, 9, true},
		{99999, 1, 99999, true}, {100000, 1, 100000, true}, {100001, 1, 0, false},
		{299999, 3, 99999, true}, {300000, 3, 100000, true}, {300002, 3, 100000, true}, {300003, 3, 0, false},
		{99999999, 1000, 99999, true}, {99900000, 999, 100000, true}, {99900998, 999, 100000, true}, {99900999, 999, 0, false}, {99999999, 999, 0, false}, {99999999, 1, 0, false},
		{100000, 0, 0, false}, {0, 0, 0, false}, {100000, -1, 0, false},
	} {
		for _, f := range standardFrames(8, c.shown) {
			if n, ok := impl.HowOften(f, c.number); ok != c.there || n != c.want {
				t.Errorf("HowOften %d from %d = %d, %v; want %d, %v", c.number, c.shown, n, ok, c.want, c.there)
			}
		}
	}
}

func TestCountDownsUpToTheirLimit(t *testing.T) {
	for _, c := range []struct {
		frame string
		step  int
		want  []int
	}{
		{"1/4 14", 4, []int{5, 1}},
		{"1/4 14", 3, []int{6, 3, 0}},
		{"1/4 14", 9, []int{0}},
		{"1/4 14", 10, []int{}},
		{"1/4 00", 1, []int{}},
		{"1/4 10", 1, []int{4, 3, 2, 1, 0}},
		{"2/5 11 03", 20, []int{43, 23, 3}},
		{"2/5 11 03", math.MaxInt, []int{}},
	} {
		list, ok := impl.CountDown(parsedFrame(t, c.frame), c.step)
		checkInts(t, "CountDown "+c.frame+" by "+strconv.Itoa(c.step), list, ok, c.want...)
	}
	for _, c := range []struct {
		shown, step, times int
		there              bool
	}{{49, 1, 49, true}, {50, 1, 50, true}, {51, 1, 0, false}, {100, 2, 50, true}, {101, 2, 50, true}, {102, 2, 0, false}, {99999999, 1999999, 50, true}, {99999999, 1960784, 0, false}, {99999999, 1960785, 50, true}, {99999999, 1, 0, false}} {
		for _, f := range standardFrames(8, c.shown) {
			list, ok := impl.CountDown(f, c.step)
			if ok != c.there || len(list) != c.times || ok && list[len(list)-1] != c.shown-c.times*c.step {
				t.Errorf("CountDown %d by %d = %v, %v", c.shown, c.step, list, ok)
			}
		}
	}
}

func TestKnownNearestMultiples(t *testing.T) {
	for _, c := range []struct {
		from string
		step int
		to   string
	}{
		{"1/4 11 03", 10, "1/4 11 00"},
		{"1/4 11 03", 1, "1/4 11 03"},
		{"1/4 11 03", 7, "1/4 11 03"},
		{"1/4 11 03", 8, "1/4 10 11"},
		{"1/4 11 03", 32, "1/4 03 02"},
		{"1/4 11 03", 62, "1/4 11 02"},
		{"1/4 11 03", 63, "1/4 11 03"},
		{"1/4 11 03", 64, "1/4 00 00"},
		{"2/5 11 03", 100, "2/5 00 00"},
		{"2/5 11 03", math.MaxInt, "2/5 00 00"},
		{"1/5 00", 1, "1/5 00"},
		{"1/5 00", 9, "1/5 00"},
		{"2/4 14 14 14 14 14 14 14 14", 10000000, "2/4 14 00 00 00 00 00 00 00"},
		{"2/4 14 14 14 14 14 14 14 14", 100000000, "2/4 00 00 00 00 00 00 00 00"},
		{"2/4 14 14 14 14 14 14 14 14", 2, "2/4 14 14 14 14 14 14 14 13"},
	} {
		f, ok := impl.NearestBelow(parsedFrame(t, c.from), c.step)
		checkFrame(t, "NearestBelow "+c.from+" with "+strconv.Itoa(c.step), f, ok, parsedFrame(t, c.to), true)
	}
}

func TestStepsAreAtLeast1(t *testing.T) {
	for rods := 1; rods <= impl.MaxRods; rods++ {
		for _, shown := range []int{0, 1, 5, powerOf10(rods) - 1} {
			for _, f := range standardFrames(rods, shown) {
				for _, step := range []int{0, -1, -2, -shown, -shown - 1, -1 << 32, math.MinInt, math.MinInt + 1} {
					checkNoSteps(t, f, step)
				}
			}
		}
	}
}

// checkNothingTaken tests that no function takes from a frame.
func checkNothingTaken(t *testing.T, f impl.Frame) {
	t.Helper()
	for _, number := range []int{math.MinInt, -1, 0, 1, 5, 10, 1 << 40, math.MaxInt} {
		checkNoNumberTaken(t, f, number)
		checkNoSteps(t, f, number)
	}
	for _, rod := range []int{math.MinInt, -1, 0, 1, len(f.Rods) - 1, len(f.Rods), math.MaxInt} {
		for _, digit := range []int{math.MinInt, -1, 0, 1, 9, 10, math.MaxInt} {
			checkNoDigitTaken(t, f, rod, digit)
		}
	}
}

func TestPromise8NothingIsTakenFromFramesThatAreNotStandard(t *testing.T) {
	others := 0
	for _, f := range append(shortFrames(2), longFrames()...) {
		if !isStandardFrame(f) {
			others++
			checkNothingTaken(t, f)
		}
	}
	if others < 100 {
		t.Error("only", others, "frames were not standard")
	}
}

func TestPromise8NothingIsTakenFromInvalidFrames(t *testing.T) {
	for _, f := range invalidFrames() {
		checkNothingTaken(t, f)
	}
}

// longestTakenMoves returns the length of the longest list of moves by which a number is taken
// from some rods.
func longestTakenMoves(rods int) int {
	longest := 0
	for shown := range powerOf10(rods) {
		f := wantedStandard(1, 4, rods, shown)
		for number := range shown + 1 {
			moves, _ := impl.TakeNumberMoves(f, number)
			longest = max(longest, len(moves))
		}
	}
	return longest
}

// A digit moves two parts at most, and so does the 1 that is borrowed from its rod, from which
// nothing is borrowed twice. So each rod more brings four moves more, and MaxMoves are never
// reached.
func TestPromise8NoNumberNeedsMaxMoves(t *testing.T) {
	for i, want := range []int{2, 5, 9} {
		if n := longestTakenMoves(i + 1); n != want {
			t.Errorf("on %d rods, the longest list has %d moves; want %d", i+1, n, want)
		}
	}
	f := parsedFrame(t, "1/4 11 01 01 01 01 01 01 01")
	moves, ok := impl.TakeNumberMoves(f, 16666663)
	checkMoves(t, "16666663 is taken from 61111111", moves, ok, parsedMoves(t, "0l-1 1u+1 1l-1 0u-1 0l+4 2u+1 2l-1 1u-1 1l+4 3u+1 3l-1 2u-1 2l+4 4u+1 4l-1 3u-1 3l+4 5u+1 5l-1 4u-1 4l+4 6u+1 6l-1 5u-1 5l+4 7u+1 7l+2 6u-1 6l+4"), true)
	if len(moves) != 29 || impl.MaxMoves != 60 {
		t.Error("moves", len(moves), impl.MaxMoves)
	}
	for _, number := range []int{6666666, 11111112, 16666666, 16666667, 55555555, 60000002, 61111111, 61111112} {
		for _, g := range standardFrames(8, 61111111) {
			checkNumberTaken(t, g, number)
		}
	}
}

// callTakingFunctions calls each function and returns the frames, the moves and the numbers among
// the results.
func callTakingFunctions(f impl.Frame, rod, digit, number int) ([]impl.Frame, [][]impl.BeadMove, []int) {
	impl.BorrowsOf(f, number)
	impl.HowOften(f, number)
	byDigit, _ := impl.TakeDigit(f, rod, digit)
	unchanged, _ := impl.TakeDigit(f, rod, 0)
	byNumber, _ := impl.TakeNumber(f, number)
	same, _ := impl.TakeNumber(f, 0)
	nearest, _ := impl.NearestBelow(f, number)
	itself, _ := impl.NearestBelow(f, 1)
	digitMoves, _ := impl.TakeDigitMoves(f, rod, digit)
	numberMoves, _ := impl.TakeNumberMoves(f, number)
	numbers, _ := impl.CountDown(f, number)
	return []impl.Frame{byDigit, unchanged, byNumber, same, nearest, itself}, [][]impl.BeadMove{digitMoves, numberMoves}, numbers
}

func TestPromise29TakingFunctionsReturnForAllArguments(t *testing.T) {
	numbers := []int{math.MinInt, math.MinInt + 1, -1 << 32, -1, 0, 1, 5, 8, 9, 10, 99999999, 100000000, 1 << 32, math.MaxInt - 99999999, math.MaxInt}
	frames := append(invalidFrames()[:40], longFrames()...)
	frames = append(frames, shortFrames(1)...)
	frames = append(frames, repeatedFrame(math.MaxInt, math.MinInt, [2]int{math.MinInt, math.MaxInt}, 1<<16), repeatedFrame(1, 4, [2]int{math.MaxInt, math.MaxInt}, 8))
	for i, f := range frames {
		for j, a := range numbers {
			for k, b := range numbers {
				callTakingFunctions(f, a, b, numbers[(i+j+k)%len(numbers)])
			}
		}
	}
}

func TestPromise29TakingFunctionsModifyNothing(t *testing.T) {
	for _, text := range []string{"1/4 01 00 00", "1/4 03 13 11", "2/5 00 00 00", "1/5 12 00 14"} {
		for rod := range 3 {
			for digit := range 10 {
				memory := append(parsedFrame(t, text).Rods, [2]int{7, 7}, [2]int{-1, 9})
				before := slices.Clone(memory)
				f := parsedFrame(t, text)
				f.Rods = memory[:3]
				frames, lists, numbers := callTakingFunctions(f, rod, digit, digit*powerOf10(2-rod))
				if !slices.Equal(memory, before) {
					t.Errorf("%s: the memory of the argument is now %v", text, memory)
				}
				var keptFrames []impl.Frame
				for _, x := range frames {
					keptFrames = append(keptFrames, cloneFrame(x))
				}
				keptLists := [][]impl.BeadMove{slices.Clone(lists[0]), slices.Clone(lists[1])}
				keptNumbers := slices.Clone(numbers)
				for i := range memory {
					memory[i] = [2]int{5, 5}
				}
				if !slices.EqualFunc(frames, keptFrames, sameFrame) || !slices.EqualFunc(lists, keptLists, slices.Equal[[]impl.BeadMove]) || !slices.Equal(numbers, keptNumbers) {
					t.Errorf("%s: results changed with the argument", text)
				}
			}
		}
	}
}

func TestPromise29ResultsOfTakingShareNoMemory(t *testing.T) {
	f := parsedFrame(t, "1/4 01 00 03")
	frames, lists, numbers := callTakingFunctions(f, 2, 7, 25)
	againFrames, againLists, againNumbers := callTakingFunctions(f, 2, 7, 25)
	checkInts(t, "the numbers of a count down", numbers, true, 78, 53, 28, 3)
	checkListsApart(t, [][]int{numbers, againNumbers})
	frames = append(frames, againFrames...)
	for i, x := range frames {
		if len(x.Rods) != 3 {
			t.Fatal("not all calls had results", frames)
		}
		for rod := range x.Rods {
			x.Rods[rod] = [2]int{9, 10 + i}
		}
		for j, y := range frames {
			if j != i && slices.Contains(y.Rods, [2]int{9, 10 + i}) {
				t.Errorf("the frames %d and %d share memory", i, j)
			}
		}
	}
	lists = append(lists, againLists...)
	for i, x := range lists {
		if len(x) == 0 {
			t.Fatal("not all calls had moves", lists)
		}
		for at := range x {
			x[at] = impl.BeadMove{Rod: 9, Part: 9, By: 10 + i}
		}
		for j, y := range lists {
			if j != i && slices.Contains(y, impl.BeadMove{Rod: 9, Part: 9, By: 10 + i}) {
				t.Errorf("the lists %d and %d share memory", i, j)
			}
		}
	}
	if !sameFrame(f, parsedFrame(t, "1/4 01 00 03")) {
		t.Error("the argument shares memory with a result:", f)
	}
}
