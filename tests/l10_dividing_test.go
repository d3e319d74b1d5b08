package tests

import (
	"math"
	"math/rand"
	"slices"
	"strconv"
	"testing"

	"loop.example/g01006/impl"
)

// wantedSteps takes the divisor from the rest again and again, for each digit of the dividend.
func wantedSteps(dividend, divisor int) [][3]int {
	var steps [][3]int
	rest := 0
	for _, digit := range wantedDigits(dividend) {
		rest = 10*rest + digit
		step := [3]int{rest}
		for ; rest >= divisor; rest -= divisor {
			step[1]++
		}
		step[2] = rest
		steps = append(steps, step)
	}
	return steps
}

// wantedTrials writes the rest and the divisor, and cuts off what is behind the divisor's first digit.
func wantedTrials(dividend, divisor int) []int {
	var trials []int
	by := strconv.Itoa(divisor)
	for _, step := range wantedSteps(dividend, divisor) {
		rest := strconv.Itoa(step[0])
		// A text that is too short leaves nothing, which is 0.
		kept, _ := strconv.Atoi(rest[:max(len(rest)-len(by)+1, 0)])
		trials = append(trials, min(kept/int(by[0]-'0'), 9))
	}
	return trials
}

// wantedDecimals divides the rest with zeros at its right.
func wantedDecimals(dividend, divisor, places int) []int {
	return paddedDigits(12, dividend%divisor*powerOf10(12)/divisor)[:places]
}

// wantedPeriod takes the factors 2 and 5 from the denominator in lowest terms: 10 to the power of
// the period is 1 more than a multiple of what is left.
func wantedPeriod(dividend, divisor int) (int, int) {
	for d := divisor; d > 1; d-- {
		if dividend%d == 0 && divisor%d == 0 {
			dividend, divisor = dividend/d, divisor/d
		}
	}
	begin := 0
	for ; divisor%2 == 0 || divisor%5 == 0; begin++ {
		if divisor%2 == 0 {
			divisor /= 2
		}
		if divisor%5 == 0 {
			divisor /= 5
		}
	}
	if divisor == 1 {
		return 0, 0
	}
	length, power := 1, 10%divisor
	for ; power != 1; length++ {
		power = power * 10 % divisor
	}
	return begin, length
}

// divisionText returns a dividend and a divisor as text for a message.
func divisionText(dividend, divisor int) string {
	return strconv.Itoa(dividend) + " by " + strconv.Itoa(divisor)
}

// checkTrials tests the promise: no trial digit is less than the digit of the quotient. With one
// digit the divisor is not guessed from a part of it, so that all trial digits are right.
func checkTrials(t *testing.T, dividend, divisor int) {
	t.Helper()
	steps, ok := impl.DivisionSteps(dividend, divisor)
	trials, fine := impl.TrialDigits(dividend, divisor)
	if !ok || !fine || len(steps) != len(trials) {
		t.Fatalf("%s: steps %v, %v and trial digits %v, %v", divisionText(dividend, divisor), steps, ok, trials, fine)
	}
	sum := 0
	for i, trial := range trials {
		more := trial - steps[i][1]
		if more < 0 || trial > 9 || more > 0 && divisor < 10 {
			t.Errorf("%s: trial digits %v for the steps %v", divisionText(dividend, divisor), trials, steps)
		}
		sum += more
	}
	if n, ok := impl.Corrections(dividend, divisor); !ok || n != sum {
		t.Errorf("Corrections %s = %d, %v; want %d", divisionText(dividend, divisor), n, ok, sum)
	}
}

// checkSteppedDivision tests the steps, the quotient and the trial digits of a division.
func checkSteppedDivision(t *testing.T, dividend, divisor int) {
	t.Helper()
	what := divisionText(dividend, divisor)
	want := wantedSteps(dividend, divisor)
	steps, ok := impl.DivisionSteps(dividend, divisor)
	if !ok || !slices.Equal(steps, want) {
		t.Errorf("DivisionSteps %s: %v, %v; want %v", what, steps, ok, want)
	}
	quotient, rest := 0, 0
	for _, step := range want {
		quotient, rest = 10*quotient+step[1], step[2]
	}
	if q, r, ok := impl.QuotientOf(dividend, divisor); !ok || q != quotient || r != rest || q*divisor+r != dividend {
		t.Errorf("QuotientOf %s = %d, %d, %v; want %d, %d", what, q, r, ok, quotient, rest)
	}
	trials, ok := impl.TrialDigits(dividend, divisor)
	checkInts(t, "TrialDigits "+what, trials, ok, wantedTrials(dividend, divisor)...)
	checkTrials(t, dividend, divisor)
	for _, places := range []int{0, 1, (dividend + divisor) % 12, 12} {
		digits, ok := impl.DecimalsOf(dividend, divisor, places)
		checkInts(t, "DecimalsOf "+what, digits, ok, wantedDecimals(dividend, divisor, places)...)
	}
}

// checkNoDivision tests that no function takes two numbers as a dividend and a divisor.
func checkNoDivision(t *testing.T, dividend, divisor int) {
	t.Helper()
	what := divisionText(dividend, divisor)
	if steps, ok := impl.DivisionSteps(dividend, divisor); ok || len(steps) != 0 {
		t.Errorf("DivisionSteps %s: %v, %v", what, steps, ok)
	}
	if q, r, ok := impl.QuotientOf(dividend, divisor); ok || q != 0 || r != 0 {
		t.Errorf("QuotientOf %s = %d, %d, %v", what, q, r, ok)
	}
	if trials, ok := impl.TrialDigits(dividend, divisor); ok || len(trials) != 0 {
		t.Errorf("TrialDigits %s: %v, %v", what, trials, ok)
	}
	if n, ok := impl.Corrections(dividend, divisor); ok || n != 0 {
		t.Errorf("Corrections %s = %d, %v", what, n, ok)
	}
	for _, places := range []int{-1, 0, 1, 6, 12, 13} {
		checkNoDecimals(t, dividend, divisor, places)
	}
	checkNoPeriod(t, dividend, divisor)
	for _, c := range [][2]int{{0, 0}, {0, 1}, {1, 0}, {99999999, 0}, {99999999, 9999}, {-1, 0}, {0, -1}} {
		checkNothingChecked(t, dividend, divisor, c[0], c[1])
	}
}

// checkNoDecimals tests that DecimalsOf fails.
func checkNoDecimals(t *testing.T, dividend, divisor, places int) {
	t.Helper()
	if digits, ok := impl.DecimalsOf(dividend, divisor, places); ok || len(digits) != 0 {
		t.Errorf("DecimalsOf %s with %d places: %v, %v", divisionText(dividend, divisor), places, digits, ok)
	}
}

// checkNoPeriod tests that PeriodOf fails.
func checkNoPeriod(t *testing.T, dividend, divisor int) {
	t.Helper()
	if begin, length, ok := impl.PeriodOf(dividend, divisor); ok || begin != 0 || length != 0 {
		t.Errorf("PeriodOf %s = %d, %d, %v", divisionText(dividend, divisor), begin, length, ok)
	}
}

// checkNothingChecked tests that CheckDivision fails.
func checkNothingChecked(t *testing.T, dividend, divisor, quotient, rest int) {
	t.Helper()
	if right, ok := impl.CheckDivision(dividend, divisor, quotient, rest); ok || right {
		t.Errorf("CheckDivision %s is %d and %d: %v, %v", divisionText(dividend, divisor), quotient, rest, right, ok)
	}
}

// checkPeriod tests the period of a division by 1..500.
func checkPeriod(t *testing.T, dividend, divisor int) {
	t.Helper()
	wantedBegin, wantedLength := wantedPeriod(dividend, divisor)
	if begin, length, ok := impl.PeriodOf(dividend, divisor); !ok || begin != wantedBegin || length != wantedLength {
		t.Errorf("PeriodOf %s = %d, %d, %v; want %d, %d", divisionText(dividend, divisor), begin, length, ok, wantedBegin, wantedLength)
	}
}

// checkQuotientOn tests that the number on a standard frame is divided on it.
func checkQuotientOn(t *testing.T, f impl.Frame, divisor int) {
	t.Helper()
	before := cloneFrame(f)
	shown := wantedNumber(f)
	quotient, rest, ok := impl.QuotientOn(f, divisor)
	checkFrame(t, "QuotientOn "+divisionText(shown, divisor), quotient, ok, wantedStandard(f.Upper, f.Lower, len(f.Rods), shown/divisor), true)
	if rest != shown%divisor {
		t.Errorf("QuotientOn %s: the rest is %d", divisionText(shown, divisor), rest)
	}
	if !sameFrame(f, before) {
		t.Errorf("%v was changed to %v", before, f)
	}
}

// checkNoQuotientOn tests that nothing is divided on a frame.
func checkNoQuotientOn(t *testing.T, f impl.Frame, divisor int) {
	t.Helper()
	quotient, rest, ok := impl.QuotientOn(f, divisor)
	checkFrame(t, "QuotientOn by "+strconv.Itoa(divisor), quotient, ok, impl.Frame{}, false)
	if rest != 0 {
		t.Errorf("QuotientOn(%v, %d): the rest is %d", f, divisor, rest)
	}
}

// edgeDividends are dividends of few digits, with zeros within them and at their ends, and at the
// limits.
func edgeDividends() []int {
	return []int{0, 1, 2, 5, 7, 9, 10, 11, 37, 90, 99, 100, 101, 105, 110, 999, 1000, 1001, 3700, 9998, 9999, 10000, 10001, 12345, 37037, 100000, 199999, 370037, 500000, 1000000, 1010101, 1999999, 9999999, 10000000, 10000001, 12345678, 19999999, 40000008, 90000000, 99980001, 99990000, 99999998, 99999999}
}

// edgeDivisors are divisors of each length, also with a first digit of 1 and a long tail, and at
// the limits.
func edgeDivisors() []int {
	return []int{1, 2, 3, 4, 5, 6, 7, 8, 9, 10, 11, 12, 15, 19, 20, 25, 37, 90, 91, 98, 99, 100, 101, 109, 110, 125, 190, 199, 200, 250, 299, 499, 500, 501, 909, 990, 999, 1000, 1001, 1009, 1099, 1100, 1900, 1990, 1999, 2000, 2999, 5000, 8999, 9000, 9001, 9998, 9999}
}

// divisionsToTry are all divisions of short numbers and of the edges, those near to multiples, and
// others of each length.
func divisionsToTry() [][2]int {
	var all [][2]int
	for dividend := range 300 {
		for divisor := 1; divisor <= 120; divisor++ {
			all = append(all, [2]int{dividend, divisor})
		}
	}
	for _, divisor := range edgeDivisors() {
		for _, dividend := range edgeDividends() {
			all = append(all, [2]int{dividend, divisor})
		}
		for _, times := range []int{1, 2, 7, 9, 10, 100, 909, 5005, 10000} {
			for _, near := range []int{-1, 0, 1} {
				all = append(all, [2]int{times*divisor + near, divisor})
			}
		}
	}
	random := rand.New(rand.NewSource(10))
	for range 10000 {
		all = append(all, [2]int{random.Intn(100000000) / powerOf10(random.Intn(8)), 1 + random.Intn(9999)/powerOf10(random.Intn(4))})
	}
	return all
}

func TestPromise10NoTrialDigitIsTooSmall(t *testing.T) {
	for _, divisor := range edgeDivisors() {
		for _, dividend := range []int{99999999, 98765432, 19999999, 10000000, 12345678, 89898989, 9999999, 1999, 19, 0} {
			checkTrials(t, dividend, divisor)
		}
	}
	for divisor := 1; divisor <= 9999; divisor++ {
		for _, dividend := range []int{99999999, 70605040, 9090909, 9 * divisor, 10*divisor - 1, 8999*divisor + divisor/2} {
			checkTrials(t, dividend, divisor)
		}
	}
}

func TestPromise10StepsAndTrialDigits(t *testing.T) {
	for _, c := range divisionsToTry() {
		checkSteppedDivision(t, c[0], c[1])
	}
}

func TestPromise10KnownDivisions(t *testing.T) {
	for _, c := range []struct {
		dividend, divisor int
		steps             [][3]int
		trials            []int
		quotient, rest    int
		corrections       int
	}{
		{12345, 37, [][3]int{{1, 0, 1}, {12, 0, 12}, {123, 3, 12}, {124, 3, 13}, {135, 3, 24}}, []int{0, 0, 4, 4, 4}, 333, 24, 3},
		{0, 1, nil, nil, 0, 0, 0},
		{0, 9999, nil, nil, 0, 0, 0},
		{7, 1, [][3]int{{7, 7, 0}}, []int{7}, 7, 0, 0},
		{7, 7, [][3]int{{7, 1, 0}}, []int{1}, 1, 0, 0},
		{7, 8, [][3]int{{7, 0, 7}}, []int{0}, 0, 7, 0},
		{9, 9999, [][3]int{{9, 0, 9}}, []int{0}, 0, 9, 0},
		{105, 5, [][3]int{{1, 0, 1}, {10, 2, 0}, {5, 1, 0}}, []int{0, 2, 1}, 21, 0, 0},
		{1000, 8, [][3]int{{1, 0, 1}, {10, 1, 2}, {20, 2, 4}, {40, 5, 0}}, []int{0, 1, 2, 5}, 125, 0, 0},
		{3006, 3, [][3]int{{3, 1, 0}, {0, 0, 0}, {0, 0, 0}, {6, 2, 0}}, []int{1, 0, 0, 2}, 1002, 0, 0},
		{1010, 10, [][3]int{{1, 0, 1}, {10, 1, 0}, {1, 0, 1}, {10, 1, 0}}, []int{0, 1, 0, 1}, 101, 0, 0},
		{384, 10, [][3]int{{3, 0, 3}, {38, 3, 8}, {84, 8, 4}}, []int{0, 3, 8}, 38, 4, 0},
		// The rest 18 is guessed from 1 alone, which goes 18 times into it, but into 189 just 9 times.
		{189, 19, [][3]int{{1, 0, 1}, {18, 0, 18}, {189, 9, 18}}, []int{0, 1, 9}, 9, 18, 1},
		{95, 19, [][3]int{{9, 0, 9}, {95, 5, 0}}, []int{0, 9}, 5, 0, 4},
		{100, 19, [][3]int{{1, 0, 1}, {10, 0, 10}, {100, 5, 5}}, []int{0, 1, 9}, 5, 5, 5},
		{1998, 1999, [][3]int{{1, 0, 1}, {19, 0, 19}, {199, 0, 199}, {1998, 0, 1998}}, []int{0, 0, 0, 1}, 0, 1998, 1},
		{10000, 1999, [][3]int{{1, 0, 1}, {10, 0, 10}, {100, 0, 100}, {1000, 0, 1000}, {10000, 5, 5}}, []int{0, 0, 0, 1, 9}, 5, 5, 5},
		{99999, 9999, [][3]int{{9, 0, 9}, {99, 0, 99}, {999, 0, 999}, {9999, 1, 0}, {9, 0, 9}}, []int{0, 0, 0, 1, 0}, 10, 9, 0},
		{99989, 9999, [][3]int{{9, 0, 9}, {99, 0, 99}, {999, 0, 999}, {9998, 0, 9998}, {99989, 9, 9998}}, []int{0, 0, 0, 1, 9}, 9, 9998, 1},
		{99999999, 1, [][3]int{{9, 9, 0}, {9, 9, 0}, {9, 9, 0}, {9, 9, 0}, {9, 9, 0}, {9, 9, 0}, {9, 9, 0}, {9, 9, 0}}, []int{9, 9, 9, 9, 9, 9, 9, 9}, 99999999, 0, 0},
		{99999999, 9, [][3]int{{9, 1, 0}, {9, 1, 0}, {9, 1, 0}, {9, 1, 0}, {9, 1, 0}, {9, 1, 0}, {9, 1, 0}, {9, 1, 0}}, []int{1, 1, 1, 1, 1, 1, 1, 1}, 11111111, 0, 0},
		{99999999, 9999, [][3]int{{9, 0, 9}, {99, 0, 99}, {999, 0, 999}, {9999, 1, 0}, {9, 0, 9}, {99, 0, 99}, {999, 0, 999}, {9999, 1, 0}}, []int{0, 0, 0, 1, 0, 0, 0, 1}, 10001, 0, 0},
	} {
		what := divisionText(c.dividend, c.divisor)
		steps, ok := impl.DivisionSteps(c.dividend, c.divisor)
		if !ok || !slices.Equal(steps, c.steps) {
			t.Errorf("DivisionSteps %s: %v, %v; want %v", what, steps, ok, c.steps)
		}
		trials, ok := impl.TrialDigits(c.dividend, c.divisor)
		checkInts(t, "TrialDigits "+what, trials, ok, c.trials...)
		if q, r, ok := impl.QuotientOf(c.dividend, c.divisor); !ok || q != c.quotient || r != c.rest {
			t.Errorf("QuotientOf %s = %d, %d, %v; want %d, %d", what, q, r, ok, c.quotient, c.rest)
		}
		if n, ok := impl.Corrections(c.dividend, c.divisor); !ok || n != c.corrections {
			t.Errorf("Corrections %s = %d, %v; want %d", what, n, ok, c.corrections)
		}
	}
}

func TestPromise10NothingElseIsDivided(t *testing.T) {
	for _, dividend := range append(numbersOutside(0, 99999999), 199999999, 1000000000) {
		for _, divisor := range append(numbersOutside(1, 9999), 1, 9, 10, 500, 9999) {
			checkNoDivision(t, dividend, divisor)
		}
	}
	for _, divisor := range append(numbersOutside(1, 9999), 0, -9999, 19999, 100000) {
		for _, dividend := range edgeDividends() {
			checkNoDivision(t, dividend, divisor)
		}
	}
}

func TestKnownDecimals(t *testing.T) {
	for _, c := range []struct {
		dividend, divisor, places int
		want                      []int
	}{
		{1, 7, 6, []int{1, 4, 2, 8, 5, 7}},
		{1, 7, 12, []int{1, 4, 2, 8, 5, 7, 1, 4, 2, 8, 5, 7}},
		{1, 7, 0, nil},
		{22, 7, 3, []int{1, 4, 2}},
		{0, 7, 4, []int{0, 0, 0, 0}},
		{0, 7, 0, nil},
		{7, 7, 2, []int{0, 0}},
		{14, 7, 12, []int{0, 0, 0, 0, 0, 0, 0, 0, 0, 0, 0, 0}},
		{1, 8, 2, []int{1, 2}},
		{1, 8, 3, []int{1, 2, 5}},
		{1, 8, 12, []int{1, 2, 5, 0, 0, 0, 0, 0, 0, 0, 0, 0}},
		{1000, 16, 3, []int{5, 0, 0}},
		{1, 128, 7, []int{0, 0, 7, 8, 1, 2, 5}},
		{1, 9999, 9, []int{0, 0, 0, 1, 0, 0, 0, 1, 0}},
		{9998, 9999, 5, []int{9, 9, 9, 8, 9}},
		{1, 1000, 4, []int{0, 0, 1, 0}},
		{2, 3, 12, []int{6, 6, 6, 6, 6, 6, 6, 6, 6, 6, 6, 6}},
		{5, 6, 4, []int{8, 3, 3, 3}},
		{99999999, 1, 1, []int{0}},
		{99999999, 10, 3, []int{9, 0, 0}},
		{99999999, 7000, 6, []int{7, 1, 4, 1, 4, 2}},
	} {
		digits, ok := impl.DecimalsOf(c.dividend, c.divisor, c.places)
		checkInts(t, "DecimalsOf "+divisionText(c.dividend, c.divisor), digits, ok, c.want...)
	}
}

func TestAllNumbersOfPlaces(t *testing.T) {
	for _, divisor := range edgeDivisors() {
		for _, dividend := range edgeDividends() {
			for places := 0; places <= 12; places++ {
				digits, ok := impl.DecimalsOf(dividend, divisor, places)
				checkInts(t, "DecimalsOf "+divisionText(dividend, divisor), digits, ok, wantedDecimals(dividend, divisor, places)...)
			}
			for _, places := range numbersOutside(0, 12) {
				checkNoDecimals(t, dividend, divisor, places)
			}
		}
	}
}

func TestKnownPeriods(t *testing.T) {
	for _, c := range [][4]int{
		{1, 7, 0, 6}, {1, 6, 1, 1}, {1, 8, 0, 0}, {1, 3, 0, 1}, {1, 9, 0, 1}, {1, 11, 0, 2}, {1, 12, 2, 1}, {1, 13, 0, 6}, {5, 14, 1, 6}, {1, 17, 0, 16}, {1, 37, 0, 3}, {1, 300, 2, 1}, {1, 96, 5, 1}, {1, 384, 7, 1}, {1, 75, 2, 1}, {1, 375, 3, 1}, {1, 480, 5, 1},
		// The division goes out.
		{0, 7, 0, 0}, {0, 1, 0, 0}, {7, 7, 0, 0}, {21, 7, 0, 0}, {99999999, 1, 0, 0}, {1, 2, 0, 0}, {1, 5, 0, 0}, {1, 10, 0, 0}, {1, 256, 0, 0}, {1, 125, 0, 0}, {1, 400, 0, 0}, {1, 500, 0, 0}, {499, 500, 0, 0}, {99999999, 500, 0, 0},
		// The dividend takes factors of the divisor away, some or all but 2 and 5.
		{3, 6, 0, 0}, {9, 12, 0, 0}, {7, 14, 0, 0}, {21, 420, 0, 0}, {99999999, 99, 0, 0}, {99999999, 495, 0, 0}, {2, 6, 0, 1}, {5, 15, 0, 1}, {3, 15, 0, 0}, {3, 21, 0, 6}, {7, 21, 0, 1}, {10, 30, 0, 1}, {5, 30, 1, 1}, {6, 84, 1, 6}, {4, 12, 0, 1}, {7, 77, 0, 2},
		{1, 499, 0, 498}, {498, 499, 0, 498}, {1, 491, 0, 490}, {1, 487, 0, 486}, {1, 498, 1, 41}, {1, 494, 1, 18}, {1, 458, 1, 228}, {99999999, 499, 0, 498},
	} {
		if begin, length, ok := impl.PeriodOf(c[0], c[1]); !ok || begin != c[2] || length != c[3] {
			t.Errorf("PeriodOf %s = %d, %d, %v; want %d, %d", divisionText(c[0], c[1]), begin, length, ok, c[2], c[3])
		}
	}
}

func TestPeriods(t *testing.T) {
	longest := 0
	for divisor := 1; divisor <= 500; divisor++ {
		for dividend := range 40 {
			checkPeriod(t, dividend, divisor)
		}
		for _, dividend := range []int{divisor - 1, divisor, divisor + 1, 3 * divisor, 420, 9009, 99999998, 99999999} {
			checkPeriod(t, dividend, divisor)
		}
		_, length, _ := impl.PeriodOf(1, divisor)
		longest = max(longest, length)
	}
	if longest != 498 {
		t.Error("the longest period has", longest, "digits")
	}
}

// A period repeats the digits that come before it, as far as twelve of them show.
func TestPeriodsRepeatTheDecimals(t *testing.T) {
	repeated := 0
	for divisor := 1; divisor <= 500; divisor++ {
		for _, dividend := range []int{1, 2, 6, 35, 210} {
			begin, length, _ := impl.PeriodOf(dividend, divisor)
			digits, _ := impl.DecimalsOf(dividend, divisor, 12)
			for i := begin; length > 0 && i+length < 12; i++ {
				repeated++
				if digits[i] != digits[i+length] {
					t.Errorf("%s: %v with the period %d behind %d", divisionText(dividend, divisor), digits, length, begin)
				}
			}
		}
	}
	if repeated < 1000 {
		t.Error("only", repeated, "digits were repeated")
	}
}

func TestNoPeriodsOfGreaterDivisors(t *testing.T) {
	for _, divisor := range []int{501, 502, 503, 512, 999, 1000, 5000, 9998, 9999} {
		for _, dividend := range edgeDividends() {
			checkNoPeriod(t, dividend, divisor)
		}
		checkNoPeriod(t, divisor, divisor)
	}
	for divisor := 501; divisor <= 9999; divisor++ {
		checkNoPeriod(t, 1, divisor)
	}
}

func TestQuotientsOnShortFrames(t *testing.T) {
	for rods := 1; rods <= 2; rods++ {
		for shown := range powerOf10(rods) {
			for _, f := range standardFrames(rods, shown) {
				for divisor := 1; divisor <= 101; divisor++ {
					checkQuotientOn(t, f, divisor)
				}
			}
		}
	}
}

func TestQuotientsOnLongFrames(t *testing.T) {
	for _, shown := range edgeDividends() {
		for rods := len(strconv.Itoa(shown)); rods <= impl.MaxRods; rods++ {
			for _, divisor := range edgeDivisors() {
				checkQuotientOn(t, standardFrames(rods, shown)[(rods+divisor)%4], divisor)
			}
			for _, divisor := range numbersOutside(1, 9999) {
				checkNoQuotientOn(t, wantedStandard(1, 4, rods, shown), divisor)
			}
		}
	}
}

func TestKnownQuotientsOnFrames(t *testing.T) {
	for _, c := range []struct {
		from    string
		divisor int
		to      string
		rest    int
	}{
		{"1/4 11 03", 10, "1/4 00 11", 3},
		{"1/4 11 03", 1, "1/4 11 03", 0},
		{"2/5 11 03", 63, "2/5 00 01", 0},
		{"1/5 11 03", 64, "1/5 00 00", 63},
		{"2/4 00 00 00", 1, "2/4 00 00 00", 0},
		{"2/4 00 00 00", 9999, "2/4 00 00 00", 0},
		{"1/4 14", 9999, "1/4 00", 9},
		{"1/4 14 14 14 14 14 14 14 14", 1, "1/4 14 14 14 14 14 14 14 14", 0},
		{"1/4 14 14 14 14 14 14 14 14", 9999, "1/4 00 00 00 01 00 00 00 01", 0},
		{"1/4 14 14 14 14 14 14 14 13", 9999, "1/4 00 00 00 01 00 00 00 00", 9998},
	} {
		quotient, rest, ok := impl.QuotientOn(parsedFrame(t, c.from), c.divisor)
		checkFrame(t, c.from+" by "+strconv.Itoa(c.divisor), quotient, ok, parsedFrame(t, c.to), true)
		if rest != c.rest {
			t.Errorf("%s by %d: the rest is %d; want %d", c.from, c.divisor, rest, c.rest)
		}
	}
}

func TestNoQuotientsOnOtherFrames(t *testing.T) {
	others := invalidFrames()
	for _, f := range append(shortFrames(2), longFrames()...) {
		if !isStandardFrame(f) {
			others = append(others, f)
		}
	}
	if len(others) < 500 {
		t.Error("only", len(others), "frames were not standard")
	}
	for _, f := range others {
		for _, divisor := range []int{math.MinInt, -1, 0, 1, 2, 9, 10, 9999, 10000, math.MaxInt} {
			checkNoQuotientOn(t, f, divisor)
		}
	}
}

func TestCheckedDivisions(t *testing.T) {
	for _, c := range divisionsToTry() {
		q, r := c[0]/c[1], c[0]%c[1]
		for _, told := range [][2]int{{q, r}, {q + 1, r}, {q - 1, r}, {q, r + 1}, {q, r - 1}, {q - 1, r + c[1]}, {q + 1, r - c[1]}, {q + 1, r + 1}, {r, q}, {0, c[0]}, {c[0], 0}} {
			right, ok := impl.CheckDivision(c[0], c[1], told[0], told[1])
			there := told[0] >= 0 && told[0] <= 99999999 && told[1] >= 0 && told[1] <= 9999
			if ok != there || right != (there && told == [2]int{q, r}) {
				t.Errorf("CheckDivision %s is %d and %d: %v, %v", divisionText(c[0], c[1]), told[0], told[1], right, ok)
			}
		}
	}
}

func TestKnownCheckedDivisions(t *testing.T) {
	for _, c := range []struct {
		dividend, divisor, quotient, rest int
		right                             bool
	}{
		{100, 7, 14, 2, true}, {100, 7, 14, 3, false}, {100, 7, 14, 0, false}, {100, 7, 15, 2, false}, {100, 7, 13, 2, false}, {100, 7, 2, 14, false},
		// The parts make the whole, but the rest is not less than the divisor.
		{100, 7, 13, 9, false}, {100, 7, 0, 100, false}, {9999, 1, 0, 9999, false}, {14, 7, 1, 7, false},
		{0, 1, 0, 0, true}, {0, 9999, 0, 0, true}, {0, 7, 1, 0, false}, {0, 7, 0, 1, false},
		{9998, 9999, 0, 9998, true}, {9999, 9999, 1, 0, true}, {9999, 9999, 0, 9999, false},
		{99999999, 1, 99999999, 0, true}, {99999999, 1, 99999998, 1, false}, {99999998, 1, 99999999, 0, false}, {99999999, 9999, 10001, 0, true}, {99999999, 9999, 10000, 9999, false}, {99999999, 9999, 99999999, 9999, false},
	} {
		if right, ok := impl.CheckDivision(c.dividend, c.divisor, c.quotient, c.rest); !ok || right != c.right {
			t.Errorf("CheckDivision %s is %d and %d: %v, %v", divisionText(c.dividend, c.divisor), c.quotient, c.rest, right, ok)
		}
	}
}

func TestQuotientsAndRestsOutsideOfTheirRanges(t *testing.T) {
	for _, c := range [][2]int{{0, 1}, {0, 9999}, {100, 7}, {9998, 9999}, {99999999, 1}, {99999999, 9999}} {
		q, r := c[0]/c[1], c[0]%c[1]
		for _, n := range numbersOutside(0, 99999999) {
			checkNothingChecked(t, c[0], c[1], n, r)
			checkNothingChecked(t, c[0], c[1], n, -1)
			checkNothingChecked(t, c[0], c[1], n, 9999)
		}
		for _, n := range append(numbersOutside(0, 9999), 99999999) {
			checkNothingChecked(t, c[0], c[1], q, n)
			checkNothingChecked(t, c[0], c[1], 0, n)
			checkNothingChecked(t, c[0], c[1], 99999999, n)
		}
	}
}

func TestKnownDivisors(t *testing.T) {
	var upTo99 []int
	for n := 1; n <= 99; n++ {
		upTo99 = append(upTo99, n)
	}
	for _, c := range []struct {
		dividend int
		want     []int
	}{
		{0, upTo99},
		{1, []int{1}},
		{2, []int{1, 2}},
		{12, []int{1, 2, 3, 4, 6, 12}},
		{49, []int{1, 7, 49}},
		{97, []int{1, 97}},
		{98, []int{1, 2, 7, 14, 49, 98}},
		{99, []int{1, 3, 9, 11, 33, 99}},
		{100, []int{1, 2, 4, 5, 10, 20, 25, 50}},
		{101, []int{1}},
		{198, []int{1, 2, 3, 6, 9, 11, 18, 22, 33, 66, 99}},
		{202, []int{1, 2}},
		{9409, []int{1, 97}},
		{10201, []int{1}},
		{99999989, []int{1}},
		{99999999, []int{1, 3, 9, 11, 33, 73, 99}},
	} {
		divisors, ok := impl.DivisorsOf(c.dividend)
		checkInts(t, "DivisorsOf "+strconv.Itoa(c.dividend), divisors, ok, c.want...)
	}
}

func TestDivisors(t *testing.T) {
	random := rand.New(rand.NewSource(100))
	dividends := edgeDividends()
	for n := range 5000 {
		dividends = append(dividends, n, random.Intn(100000000))
	}
	for _, dividend := range dividends {
		var want []int
		for n := 1; n <= 99; n++ {
			if dividend/n*n == dividend {
				want = append(want, n)
			}
		}
		divisors, ok := impl.DivisorsOf(dividend)
		checkInts(t, "DivisorsOf "+strconv.Itoa(dividend), divisors, ok, want...)
	}
	for _, n := range numbersOutside(0, 99999999) {
		if divisors, ok := impl.DivisorsOf(n); ok || len(divisors) != 0 {
			t.Errorf("DivisorsOf %d: %v, %v", n, divisors, ok)
		}
	}
}

// callDividingFunctions calls each function and returns the frame and the lists among the results.
func callDividingFunctions(f impl.Frame, dividend, divisor, places, rest int) (impl.Frame, [][]int, [][3]int) {
	impl.QuotientOf(dividend, divisor)
	impl.Corrections(dividend, divisor)
	impl.PeriodOf(dividend, divisor)
	impl.CheckDivision(dividend, divisor, places, rest)
	quotient, _, _ := impl.QuotientOn(f, divisor)
	steps, _ := impl.DivisionSteps(dividend, divisor)
	trials, _ := impl.TrialDigits(dividend, divisor)
	decimals, _ := impl.DecimalsOf(dividend, divisor, places)
	divisors, _ := impl.DivisorsOf(dividend)
	return quotient, [][]int{trials, decimals, divisors}, steps
}

func TestPromise29DividingReturnsForAllArguments(t *testing.T) {
	numbers := []int{math.MinInt, math.MinInt + 1, -1 << 32, -9999, -1, 0, 1, 9, 10, 12, 13, 499, 500, 501, 9999, 10000, 99999999, 100000000, 1 << 32, math.MaxInt - 1, math.MaxInt}
	for i, f := range framesOfAllKinds() {
		for j, a := range numbers {
			for k, b := range numbers {
				callDividingFunctions(f, a, b, numbers[(i+j+k)%len(numbers)], numbers[(i+2*j+3*k)%len(numbers)])
			}
		}
	}
}

func TestPromise29DividingModifiesNothing(t *testing.T) {
	for _, text := range textsOfThreeRods() {
		for _, divisor := range []int{-1, 0, 1, 2, 10, 999, 9999, 10000} {
			checkFrameApart(t, text, func(f impl.Frame) impl.Frame {
				quotient, _, _ := callDividingFunctions(f, 12345, divisor, 12, 24)
				return quotient
			})
		}
	}
}

func TestPromise29ResultsOfDividingShareNoMemory(t *testing.T) {
	for _, divisor := range []int{1, 37} {
		f := parsedFrame(t, "1/4 00 01 00 03")
		quotient, lists, steps := callDividingFunctions(f, 12345, divisor, 6, 24)
		again, more, moreSteps := callDividingFunctions(f, 12345, divisor, 6, 24)
		lists = append(lists, more...)
		if slices.ContainsFunc(lists, func(list []int) bool { return len(list) == 0 }) {
			t.Fatal("not all calls had results", lists)
		}
		checkListsApart(t, lists)
		for i := range quotient.Rods {
			quotient.Rods[i] = [2]int{9, 9}
		}
		checkFrame(t, "the quotient of another call", again, true, wantedStandard(1, 4, 4, 103/divisor), true)
		if !sameFrame(f, parsedFrame(t, "1/4 00 01 00 03")) {
			t.Error("the argument shares memory with a result:", f)
		}
		clear(steps)
		if !slices.Equal(moreSteps, wantedSteps(12345, divisor)) {
			t.Error("results of two calls share memory:", moreSteps)
		}
	}
}
