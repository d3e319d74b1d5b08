package tests

import (
	"math"
	"math/rand"
	"slices"
	"strconv"
	"testing"

	"loop.example/g01006/impl"
)

// wantedDigits returns the digits of a number without zeros at the left; 0 has none.
func wantedDigits(number int) []int {
	if number == 0 {
		return nil
	}
	return paddedDigits(len(strconv.Itoa(number)), number)
}

// wantedParts multiplies each digit of the first factor by each of the second, from the left.
func wantedParts(a, b int) [][3]int {
	parts := [][3]int{}
	ofA, ofB := wantedDigits(a), wantedDigits(b)
	for i, x := range ofA {
		for j, y := range ofB {
			if x != 0 && y != 0 {
				parts = append(parts, [3]int{len(ofA) - 1 - i, len(ofB) - 1 - j, x * y})
			}
		}
	}
	return parts
}

// wantedPairs halves the first number and doubles the second one by shifts of their bits.
func wantedPairs(a, b int) [][2]int {
	pairs := [][2]int{}
	for bit := 0; a>>bit != 0; bit++ {
		pairs = append(pairs, [2]int{a >> bit, b << bit})
	}
	return pairs
}

// wantedWrong compares the digits of two numbers in 0..99999999 with zeros at their left.
func wantedWrong(product, answer int) []int {
	wrong := []int{}
	right, told := paddedDigits(8, product), paddedDigits(8, answer)
	for place := range 8 {
		if right[7-place] != told[7-place] {
			wrong = append(wrong, place)
		}
	}
	return wrong
}

// productText returns two factors as text for a message.
func productText(a, b int) string { return strconv.Itoa(a) + " times " + strconv.Itoa(b) }

// checkLastTotal tests that the last total of two factors is their product, and that only a
// product of 0 has none.
func checkLastTotal(t *testing.T, a, b int) {
	t.Helper()
	totals, ok := impl.Totals(a, b)
	last := 0
	if len(totals) > 0 {
		last = totals[len(totals)-1]
	}
	if !ok || last != a*b || (len(totals) == 0) != (a*b == 0) {
		t.Errorf("%s: totals %v, %v", productText(a, b), totals, ok)
	}
}

// checkParts tests the parts of two factors, what they add up to on the way, and how often this
// carries: each carry makes 1 of 10, so that the sum of the digits becomes 9 less.
func checkParts(t *testing.T, a, b int) {
	t.Helper()
	parts, ok := impl.PartsOf(a, b)
	if want := wantedParts(a, b); !ok || !slices.Equal(parts, want) {
		t.Errorf("PartsOf %s: %v, %v; want %v", productText(a, b), parts, ok, want)
	}
	var want []int
	sum, digits := 0, 0
	for _, part := range wantedParts(a, b) {
		sum += part[2] * powerOf10(part[0]+part[1])
		digits += digitSum(part[2])
		want = append(want, sum)
	}
	totals, ok := impl.Totals(a, b)
	checkInts(t, "Totals "+productText(a, b), totals, ok, want...)
	if n, ok := impl.TimesCarries(a, b); !ok || n != (digits-digitSum(sum))/9 {
		t.Errorf("TimesCarries %s = %d, %v; want %d", productText(a, b), n, ok, (digits-digitSum(sum))/9)
	}
}

// checkDoubling tests the pairs of two factors, and that those that are odd add up to the product.
func checkDoubling(t *testing.T, a, b int) {
	t.Helper()
	pairs, ok := impl.ByDoubling(a, b)
	if want := wantedPairs(a, b); !ok || !slices.Equal(pairs, want) {
		t.Errorf("ByDoubling %s: %v, %v; want %v", productText(a, b), pairs, ok, want)
	}
	var want []int
	for bit := 0; a>>bit != 0; bit++ {
		if a>>bit&1 == 1 {
			want = append(want, b<<bit)
		}
	}
	rows, ok := impl.OddRows(a, b)
	checkInts(t, "OddRows "+productText(a, b), rows, ok, want...)
	sum := 0
	for _, n := range rows {
		sum += n
	}
	if sum != a*b {
		t.Errorf("the odd rows of %s are %d", productText(a, b), sum)
	}
}

// checkNotProduct tests that a product is not added to a frame.
func checkNotProduct(t *testing.T, f impl.Frame, a, b int) {
	t.Helper()
	sum, ok := impl.ProductOn(f, a, b)
	checkFrame(t, "ProductOn "+productText(a, b), sum, ok, impl.Frame{}, false)
}

// checkProduct tests that the product of two factors is added to a standard frame if the sum has
// a digit for each rod at most, and not at all otherwise.
func checkProduct(t *testing.T, f impl.Frame, a, b int) {
	t.Helper()
	want := wantedNumber(f) + a*b
	if want >= powerOf10(len(f.Rods)) {
		checkNotProduct(t, f, a, b)
		return
	}
	before := cloneFrame(f)
	sum, ok := impl.ProductOn(f, a, b)
	checkFrame(t, "ProductOn "+productText(a, b), sum, ok, wantedStandard(f.Upper, f.Lower, len(f.Rods), want), true)
	if !sameFrame(f, before) {
		t.Errorf("%v was changed to %v", before, f)
	}
}

// checkAnswer tests what two functions tell of an answer in 0..99999999 to two factors.
func checkAnswer(t *testing.T, a, b, answer int) {
	t.Helper()
	what := productText(a, b) + " is " + strconv.Itoa(answer)
	wrong, ok := impl.WrongDigits(a, b, answer)
	checkInts(t, "WrongDigits "+what, wrong, ok, wantedWrong(a*b, answer)...)
	// The sum of the digits has the same rest by 9 as the number.
	if same, ok := impl.CastingOut(a, b, answer); !ok || same != ((digitSum(a*b)-digitSum(answer))%9 == 0) {
		t.Errorf("CastingOut %s: %v, %v", what, same, ok)
	}
}

// checkNoFactors tests that no function takes two numbers as factors.
func checkNoFactors(t *testing.T, a, b int) {
	t.Helper()
	what := productText(a, b)
	if parts, ok := impl.PartsOf(a, b); ok || len(parts) != 0 {
		t.Errorf("PartsOf %s: %v, %v", what, parts, ok)
	}
	if totals, ok := impl.Totals(a, b); ok || len(totals) != 0 {
		t.Errorf("Totals %s: %v, %v", what, totals, ok)
	}
	if n, ok := impl.TimesCarries(a, b); ok || n != 0 {
		t.Errorf("TimesCarries %s: %v, %v", what, n, ok)
	}
	if pairs, ok := impl.ByDoubling(a, b); ok || len(pairs) != 0 {
		t.Errorf("ByDoubling %s: %v, %v", what, pairs, ok)
	}
	if rows, ok := impl.OddRows(a, b); ok || len(rows) != 0 {
		t.Errorf("OddRows %s: %v, %v", what, rows, ok)
	}
	for _, n := range []int{math.MinInt, -1, 0, 1, 9, a * b, 99999999, math.MaxInt} {
		checkNoAnswer(t, a, b, n)
		if same, ok := impl.CastingOut(a, b, n); ok || same {
			t.Errorf("CastingOut %s and %d: %v, %v", what, n, same, ok)
		}
	}
	checkNotProduct(t, wantedStandard(1, 4, 8, 0), a, b)
}

// checkNoAnswer tests that WrongDigits fails.
func checkNoAnswer(t *testing.T, a, b, answer int) {
	t.Helper()
	if wrong, ok := impl.WrongDigits(a, b, answer); ok || len(wrong) != 0 {
		t.Errorf("WrongDigits %s and %d: %v, %v", productText(a, b), answer, wrong, ok)
	}
}

// edgeFactors are factors with zeros, of few digits, and at the limits.
func edgeFactors() []int {
	return []int{0, 1, 2, 3, 5, 7, 9, 10, 11, 20, 50, 90, 99, 100, 101, 105, 110, 200, 384, 500, 900, 909, 990, 999, 1000, 1001, 1010, 1100, 1111, 2005, 3040, 5000, 8192, 9000, 9009, 9090, 9900, 9998, 9999}
}

// pairsOfFactors are all pairs of short factors and of edgeFactors, and others of each length.
func pairsOfFactors() [][2]int {
	var pairs [][2]int
	for a := range 130 {
		for b := range 130 {
			pairs = append(pairs, [2]int{a, b})
		}
	}
	for _, a := range edgeFactors() {
		for _, b := range edgeFactors() {
			pairs = append(pairs, [2]int{a, b})
		}
	}
	random := rand.New(rand.NewSource(9))
	for range 10000 {
		pairs = append(pairs, [2]int{random.Intn(10000) / powerOf10(random.Intn(4)), random.Intn(10000) / powerOf10(random.Intn(4))})
	}
	return pairs
}

func TestPromise9TheLastTotalIsTheProduct(t *testing.T) {
	for _, c := range pairsOfFactors() {
		checkLastTotal(t, c[0], c[1])
	}
	for a := range 10000 {
		for _, b := range []int{0, 1, 9, 10, 4096, 9009, 9999} {
			checkLastTotal(t, a, b)
			checkLastTotal(t, b, a)
		}
	}
}

func TestPromise9PartsAndTheirTotals(t *testing.T) {
	for _, c := range pairsOfFactors() {
		checkParts(t, c[0], c[1])
	}
}

func TestPromise9TheProductOnAnEmptyFrameIsTheLastTotal(t *testing.T) {
	for _, c := range pairsOfFactors() {
		sum, ok := impl.ProductOn(wantedStandard(1, 4, 8, 0), c[0], c[1])
		checkFrame(t, productText(c[0], c[1]), sum, ok, wantedStandard(1, 4, 8, c[0]*c[1]), true)
	}
}

func TestPromise9KnownParts(t *testing.T) {
	for _, c := range []struct {
		a, b    int
		parts   [][3]int
		totals  []int
		carries int
	}{
		{23, 45, [][3]int{{1, 1, 8}, {1, 0, 10}, {0, 1, 12}, {0, 0, 15}}, []int{800, 900, 1020, 1035}, 1},
		{45, 23, [][3]int{{1, 1, 8}, {1, 0, 12}, {0, 1, 10}, {0, 0, 15}}, []int{800, 920, 1020, 1035}, 1},
		{384, 7, [][3]int{{2, 0, 21}, {1, 0, 56}, {0, 0, 28}}, []int{2100, 2660, 2688}, 0},
		{7, 384, [][3]int{{0, 2, 21}, {0, 1, 56}, {0, 0, 28}}, []int{2100, 2660, 2688}, 0},
		{1, 1, [][3]int{{0, 0, 1}}, []int{1}, 0},
		{9, 9, [][3]int{{0, 0, 81}}, []int{81}, 0},
		{10, 10, [][3]int{{1, 1, 1}}, []int{100}, 0},
		{105, 20, [][3]int{{2, 1, 2}, {0, 1, 10}}, []int{2000, 2100}, 0},
		{20, 105, [][3]int{{1, 2, 2}, {1, 0, 10}}, []int{2000, 2100}, 0},
		{1000, 9009, [][3]int{{3, 3, 9}, {3, 0, 9}}, []int{9000000, 9009000}, 0},
		{50, 2000, [][3]int{{1, 3, 10}}, []int{100000}, 0},
		{99, 99, [][3]int{{1, 1, 81}, {1, 0, 81}, {0, 1, 81}, {0, 0, 81}}, []int{8100, 8910, 9720, 9801}, 2},
	} {
		what := productText(c.a, c.b)
		parts, ok := impl.PartsOf(c.a, c.b)
		if !ok || !slices.Equal(parts, c.parts) {
			t.Errorf("PartsOf %s: %v, %v; want %v", what, parts, ok, c.parts)
		}
		totals, ok := impl.Totals(c.a, c.b)
		checkInts(t, "Totals "+what, totals, ok, c.totals...)
		if n, ok := impl.TimesCarries(c.a, c.b); !ok || n != c.carries {
			t.Errorf("TimesCarries %s = %d, %v; want %d", what, n, ok, c.carries)
		}
	}
}

func TestPromise9FactorsOf0HaveNoParts(t *testing.T) {
	for _, n := range append(edgeFactors(), 4, 8, 16, 512, 9997) {
		for _, c := range [][2]int{{0, n}, {n, 0}} {
			what := productText(c[0], c[1])
			parts, ok := impl.PartsOf(c[0], c[1])
			totals, fine := impl.Totals(c[0], c[1])
			if !ok || !fine || len(parts) != 0 || len(totals) != 0 {
				t.Errorf("%s: parts %v, %v and totals %v, %v", what, parts, ok, totals, fine)
			}
			if n, ok := impl.TimesCarries(c[0], c[1]); !ok || n != 0 {
				t.Errorf("TimesCarries %s = %d, %v", what, n, ok)
			}
			for _, shown := range []int{0, 7, 99} {
				f := wantedStandard(2, 5, 2, shown)
				sum, ok := impl.ProductOn(f, c[0], c[1])
				checkFrame(t, "ProductOn "+what, sum, ok, f, true)
			}
			wrong, ok := impl.WrongDigits(c[0], c[1], 0)
			checkInts(t, "WrongDigits "+what, wrong, ok)
			wrong, ok = impl.WrongDigits(c[0], c[1], 99999999)
			checkInts(t, "WrongDigits "+what, wrong, ok, 0, 1, 2, 3, 4, 5, 6, 7)
		}
	}
}

func TestPromise9OnlyFactorsAreMultiplied(t *testing.T) {
	for _, a := range numbersOutside(0, 9999) {
		for _, b := range append(numbersOutside(0, 9999), 0, 1, 45, 9999) {
			checkNoFactors(t, a, b)
			checkNoFactors(t, b, a)
		}
	}
	for _, n := range []int{0, 1, 9998, 9999} {
		checkLastTotal(t, n, 9999)
		checkLastTotal(t, 9999, n)
	}
}

func TestCarriesOverManyRods(t *testing.T) {
	for _, c := range [][3]int{{9999, 9999, 12}, {9802, 5101, 5}, {9999, 1111, 12}, {1111, 1111, 0}, {9999, 1, 0}, {9999, 2, 0}, {2, 9999, 0}, {99, 9, 0}, {99, 99, 2}, {25, 4, 1}, {4, 2525, 2}, {5, 22, 0}, {101, 99, 0}, {9090, 9090, 1}} {
		if n, ok := impl.TimesCarries(c[0], c[1]); !ok || n != c[2] {
			t.Errorf("TimesCarries %s = %d, %v; want %d", productText(c[0], c[1]), n, ok, c[2])
		}
	}
	totals, ok := impl.Totals(9802, 5101)
	checkInts(t, "Totals 9802 times 5101", totals, ok, 45000000, 45900000, 45909000, 49909000, 49989000, 49989800, 49999800, 50000000, 50000002)
	// One part alone carries to five rods here: 200 is added to 49999800.
	checkParts(t, 9802, 5101)
	for _, c := range [][2]int{{9791, 5311}, {6241, 2083}, {9953, 7234}, {8693, 6557}, {7671, 4693}} {
		checkParts(t, c[0], c[1])
	}
}

func TestPromise9ProductsOnShortFrames(t *testing.T) {
	for rods := 1; rods <= 2; rods++ {
		for shown := range powerOf10(rods) {
			f := standardFrames(rods, shown)[shown%4]
			for a := range 14 {
				for b := range 14 {
					checkProduct(t, f, a, b)
				}
			}
		}
	}
}

func TestPromise9ProductsThatJustFit(t *testing.T) {
	for _, c := range pairsOfFactors()[130*130:] {
		product := c[0] * c[1]
		for rods := 1; rods <= impl.MaxRods; rods++ {
			room := powerOf10(rods) - 1 - product
			for _, shown := range []int{0, room - 1, room, room + 1, room + 2, powerOf10(rods) - 1} {
				if shown >= 0 && shown < powerOf10(rods) {
					checkProduct(t, standardFrames(rods, shown)[rods%4], c[0], c[1])
				}
			}
		}
	}
}

func TestPromise9KnownProductsOnFrames(t *testing.T) {
	for _, c := range []struct {
		from string
		a, b int
		to   string
	}{
		{"1/4 00 00 00 00", 23, 45, "1/4 01 00 03 10"},
		{"1/4 00 00 00", 23, 45, ""},
		{"2/5 13 14 11 04", 23, 45, "2/5 14 14 14 14"},
		{"2/5 13 14 11 10", 23, 45, ""},
		{"1/4 00", 3, 3, "1/4 14"},
		{"1/4 00", 2, 5, ""},
		{"1/4 03", 2, 3, "1/4 14"},
		{"1/4 04", 2, 3, ""},
		{"1/4 14", 0, 9999, "1/4 14"},
		{"1/4 14", 9999, 0, "1/4 14"},
		{"1/4 00", 0, 0, "1/4 00"},
		{"1/4 14", 1, 1, ""},
		{"1/4 00 00 00 00 00 00 00 00", 9999, 9999, "1/4 14 14 14 13 00 00 00 01"},
		{"1/4 00 00 00 01 14 14 14 13", 9999, 9999, "1/4 14 14 14 14 14 14 14 14"},
		{"1/4 00 00 00 01 14 14 14 14", 9999, 9999, ""},
		{"1/5 00 00 00 00 00 00 00", 9999, 9999, ""},
		{"1/5 00 00 00 00 00 00 00", 9999, 1000, "1/5 14 14 14 14 00 00 00"},
	} {
		f := parsedFrame(t, c.from)
		if c.to == "" {
			checkNotProduct(t, f, c.a, c.b)
			continue
		}
		sum, ok := impl.ProductOn(f, c.a, c.b)
		checkFrame(t, c.from+" and "+productText(c.a, c.b), sum, ok, parsedFrame(t, c.to), true)
	}
}

func TestPromise9NoProductOnFramesThatAreNotStandard(t *testing.T) {
	others := 0
	for _, f := range append(shortFrames(2), longFrames()...) {
		if isStandardFrame(f) {
			continue
		}
		others++
		for _, c := range [][2]int{{0, 0}, {0, 7}, {9999, 0}, {1, 1}, {2, 3}, {23, 45}, {9999, 9999}, {-1, 1}, {1, 10000}} {
			checkNotProduct(t, f, c[0], c[1])
		}
	}
	if others < 100 {
		t.Error("only", others, "frames were not standard")
	}
}

func TestPromise9NoProductOnInvalidFrames(t *testing.T) {
	for _, f := range invalidFrames() {
		for _, c := range [][2]int{{0, 0}, {1, 1}, {0, 9999}, {2, 3}, {math.MinInt, math.MaxInt}} {
			checkNotProduct(t, f, c[0], c[1])
		}
	}
}

func TestDigitProducts(t *testing.T) {
	for a := range 10000 {
		for digit := range 10 {
			var want []int
			for _, d := range wantedDigits(a) {
				want = append(want, d*digit)
			}
			got, ok := impl.DigitProducts(a, digit)
			checkInts(t, "DigitProducts "+productText(a, digit), got, ok, want...)
		}
	}
}

func TestKnownDigitProducts(t *testing.T) {
	for _, c := range []struct {
		a, digit int
		want     []int
	}{{384, 7, []int{21, 56, 28}}, {384, 0, []int{0, 0, 0}}, {0, 7, nil}, {0, 0, nil}, {5, 9, []int{45}}, {3040, 3, []int{9, 0, 12, 0}}, {9999, 9, []int{81, 81, 81, 81}}, {1000, 1, []int{1, 0, 0, 0}}} {
		got, ok := impl.DigitProducts(c.a, c.digit)
		checkInts(t, "DigitProducts "+productText(c.a, c.digit), got, ok, c.want...)
	}
}

func TestDigitProductsOfOtherNumbers(t *testing.T) {
	var cases [][2]int
	for _, a := range append(edgeFactors(), numbersOutside(0, 9999)...) {
		for _, digit := range append(numbersOutside(0, 9), 99, 9999, 10000) {
			cases = append(cases, [2]int{a, digit})
		}
	}
	for _, a := range numbersOutside(0, 9999) {
		for digit := range 10 {
			cases = append(cases, [2]int{a, digit})
		}
	}
	for _, c := range cases {
		if got, ok := impl.DigitProducts(c[0], c[1]); ok || len(got) != 0 {
			t.Errorf("DigitProducts %s: %v, %v", productText(c[0], c[1]), got, ok)
		}
	}
}

func TestDoubling(t *testing.T) {
	for _, c := range pairsOfFactors() {
		checkDoubling(t, c[0], c[1])
	}
}

func TestKnownDoubling(t *testing.T) {
	for _, c := range []struct {
		a, b  int
		pairs [][2]int
		odd   []int
	}{
		{5, 3, [][2]int{{5, 3}, {2, 6}, {1, 12}}, []int{3, 12}},
		{0, 3, nil, nil},
		{0, 0, nil, nil},
		{1, 3, [][2]int{{1, 3}}, []int{3}},
		{1, 0, [][2]int{{1, 0}}, []int{0}},
		{2, 9999, [][2]int{{2, 9999}, {1, 19998}}, []int{19998}},
		{6, 0, [][2]int{{6, 0}, {3, 0}, {1, 0}}, []int{0, 0}},
		{8, 1, [][2]int{{8, 1}, {4, 2}, {2, 4}, {1, 8}}, []int{8}},
		{7, 11, [][2]int{{7, 11}, {3, 22}, {1, 44}}, []int{11, 22, 44}},
	} {
		pairs, ok := impl.ByDoubling(c.a, c.b)
		if !ok || !slices.Equal(pairs, c.pairs) {
			t.Errorf("ByDoubling %s: %v, %v; want %v", productText(c.a, c.b), pairs, ok, c.pairs)
		}
		rows, ok := impl.OddRows(c.a, c.b)
		checkInts(t, "OddRows "+productText(c.a, c.b), rows, ok, c.odd...)
	}
	if pairs, ok := impl.ByDoubling(9999, 9999); !ok || len(pairs) != 14 || pairs[13] != [2]int{1, 9999 * 8192} {
		t.Error("9999 times 9999:", pairs, ok)
	}
}

func TestAnswers(t *testing.T) {
	random := rand.New(rand.NewSource(99))
	for _, c := range pairsOfFactors() {
		product := c[0] * c[1]
		for _, answer := range []int{product, product + 1, product + 9, product + powerOf10(random.Intn(8)), product / 10, product * 10, random.Intn(100000000), 0, 99999999} {
			if answer <= 99999999 {
				checkAnswer(t, c[0], c[1], answer)
			}
		}
	}
}

func TestKnownWrongDigits(t *testing.T) {
	for _, c := range []struct {
		a, b, answer int
		want         []int
	}{
		{23, 45, 1035, nil},
		{23, 45, 1045, []int{1}},
		{23, 45, 1034, []int{0}},
		{23, 45, 5301, []int{0, 1, 2, 3}},
		{23, 45, 35, []int{3}},
		{23, 45, 0, []int{0, 1, 3}},
		{23, 45, 11035, []int{4}},
		{23, 45, 101035, []int{5}},
		{23, 45, 10350, []int{0, 1, 2, 3, 4}},
		{23, 45, 20001035, []int{7}},
		{0, 0, 0, nil},
		{0, 45, 0, nil},
		{0, 45, 10, []int{1}},
		{45, 0, 100, []int{2}},
		{1, 1, 99999999, []int{0, 1, 2, 3, 4, 5, 6, 7}},
		{9, 1, 99999999, []int{1, 2, 3, 4, 5, 6, 7}},
		{9999, 9999, 99980001, nil},
		{9999, 9999, 99999999, []int{0, 1, 2, 3, 4}},
		{9999, 9999, 0, []int{0, 4, 5, 6, 7}},
	} {
		wrong, ok := impl.WrongDigits(c.a, c.b, c.answer)
		checkInts(t, "WrongDigits "+productText(c.a, c.b)+" is "+strconv.Itoa(c.answer), wrong, ok, c.want...)
	}
}

func TestAnswersOutsideOfTheirRange(t *testing.T) {
	for _, a := range edgeFactors() {
		for _, answer := range append(numbersOutside(0, 99999999), 100000000, 10*99999999) {
			checkNoAnswer(t, a, 9999, answer)
			checkNoAnswer(t, 0, a, answer)
		}
	}
}

func TestKnownCastingOut(t *testing.T) {
	for _, c := range []struct {
		a, b, product int
		same          bool
	}{
		{23, 45, 1035, true}, {23, 45, 1036, false}, {23, 45, 1034, false}, {23, 45, 1044, true}, {23, 45, 0, true}, {23, 45, 9, true}, {23, 45, 5301, true},
		{0, 0, 0, true}, {0, 7, 9, true}, {7, 0, 18, true}, {0, 7, 7, false}, {9, 7, 0, true}, {7, 9, 99999999, true}, {3, 3, 0, true}, {3, 3, 3, false},
		{2, 4, 8, true}, {2, 4, 17, true}, {2, 4, 16, false}, {2, 4, 0, false}, {1, 1, 1, true}, {1, 1, 10, true}, {1, 1, 100000000, true}, {1, 1, 100000001, false},
		{9999, 9999, 99980001, true}, {9998, 9997, 99950006, true}, {9998, 9997, 2, true}, {9998, 9997, 7, false},
		// The rest of the greatest int by 9 is 7.
		{1, 7, math.MaxInt, true}, {1, 6, math.MaxInt, false}, {1, 6, math.MaxInt - 1, true},
	} {
		if same, ok := impl.CastingOut(c.a, c.b, c.product); !ok || same != c.same {
			t.Errorf("CastingOut %s is %d: %v, %v", productText(c.a, c.b), c.product, same, ok)
		}
	}
}

func TestNoProductBelow0IsCastOut(t *testing.T) {
	for _, a := range edgeFactors() {
		for _, product := range []int{math.MinInt, math.MinInt + 1, -1035, -18, -9, -2, -1, -a - 1} {
			for _, b := range []int{0, 1, 9, 45, 9999} {
				if same, ok := impl.CastingOut(a, b, product); ok || same {
					t.Errorf("CastingOut %s is %d: %v, %v", productText(a, b), product, same, ok)
				}
			}
		}
	}
}

// callTimesFunctions calls each function and returns the frame and the lists among the results.
func callTimesFunctions(f impl.Frame, a, b, n int) (impl.Frame, [][]int, [][3]int, [][2]int) {
	impl.TimesCarries(a, b)
	impl.CastingOut(a, b, n)
	product, _ := impl.ProductOn(f, a, b)
	parts, _ := impl.PartsOf(a, b)
	pairs, _ := impl.ByDoubling(a, b)
	totals, _ := impl.Totals(a, b)
	row, _ := impl.DigitProducts(a, b%10)
	impl.DigitProducts(a, n)
	odd, _ := impl.OddRows(a, b)
	wrong, _ := impl.WrongDigits(a, b, n)
	return product, [][]int{totals, row, odd, wrong}, parts, pairs
}

// framesOfAllKinds are frames that are standard, valid but not standard, and not valid.
func framesOfAllKinds() []impl.Frame {
	frames := append(invalidFrames()[:40], longFrames()[:40]...)
	frames = append(frames, shortFrames(1)...)
	return append(frames, repeatedFrame(math.MaxInt, math.MinInt, [2]int{math.MinInt, math.MaxInt}, 1<<16), repeatedFrame(1, 4, [2]int{math.MaxInt, math.MaxInt}, 8))
}

// textsOfThreeRods are texts of frames with three rods, the last one not standard.
func textsOfThreeRods() []string {
	return []string{"1/4 01 00 00", "1/4 00 13 11", "2/5 00 00 00", "1/5 12 00 14", "1/5 05 00 14"}
}

// checkFrameApart tests that a call modifies no memory of a frame of three rods, also behind them,
// and that the frame that it returns does not change with its argument.
func checkFrameApart(t *testing.T, text string, call func(impl.Frame) impl.Frame) {
	t.Helper()
	f := parsedFrame(t, text)
	memory := append(f.Rods, [2]int{7, 7}, [2]int{-1, 9})
	before := slices.Clone(memory)
	f.Rods = memory[:3]
	result := call(f)
	if !slices.Equal(memory, before) {
		t.Errorf("%s: the memory of the argument is now %v", text, memory)
	}
	kept := cloneFrame(result)
	for i := range memory {
		memory[i] = [2]int{5, 5}
	}
	if !sameFrame(result, kept) {
		t.Errorf("%s: the result changed with the argument", text)
	}
}

func TestPromise29MultiplyingReturnsForAllArguments(t *testing.T) {
	numbers := []int{math.MinInt, math.MinInt + 1, -1 << 32, -10000, -9999, -1, 0, 1, 9, 10, 45, 9998, 9999, 10000, 99999999, 100000000, 1 << 32, math.MaxInt - 1, math.MaxInt}
	for i, f := range framesOfAllKinds() {
		for j, a := range numbers {
			for k, b := range numbers {
				callTimesFunctions(f, a, b, numbers[(i+j+k)%len(numbers)])
			}
		}
	}
}

func TestPromise29MultiplyingModifiesNothing(t *testing.T) {
	for _, text := range textsOfThreeRods() {
		for _, c := range [][2]int{{0, 0}, {0, 45}, {7, 0}, {2, 3}, {11, 12}, {-1, 5}, {9999, 9999}} {
			checkFrameApart(t, text, func(f impl.Frame) impl.Frame {
				product, _, _, _ := callTimesFunctions(f, c[0], c[1], 1035)
				return product
			})
		}
	}
}

func TestPromise29ResultsOfMultiplyingShareNoMemory(t *testing.T) {
	f := parsedFrame(t, "1/4 00 01 00 03")
	product, lists, parts, pairs := callTimesFunctions(f, 23, 45, 5301)
	again, more, moreParts, morePairs := callTimesFunctions(f, 23, 45, 5301)
	none, _ := impl.ProductOn(f, 0, 45)
	lists = append(lists, more...)
	if slices.ContainsFunc(lists, func(list []int) bool { return len(list) == 0 }) {
		t.Fatal("not all calls had results", lists)
	}
	checkListsApart(t, lists)
	for i := range product.Rods {
		product.Rods[i], none.Rods[i] = [2]int{9, 9}, [2]int{8, 8}
	}
	checkFrame(t, "the product of another call", again, true, parsedFrame(t, "1/4 01 01 03 13"), true)
	if !sameFrame(f, parsedFrame(t, "1/4 00 01 00 03")) {
		t.Error("the argument shares memory with a result:", f)
	}
	clear(parts)
	clear(pairs)
	if !slices.Equal(moreParts, wantedParts(23, 45)) || !slices.Equal(morePairs, wantedPairs(23, 45)) {
		t.Error("results of two calls share memory:", moreParts, morePairs)
	}
}
