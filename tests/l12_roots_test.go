package tests

import (
	"math"
	"math/rand"
	"slices"
	"strconv"
	"testing"

	"loop.example/g01006/impl"
)

// wantedRoot corrects what the root of the library tells.
func wantedRoot(number int) int {
	root := int(math.Sqrt(float64(number)))
	for root*root > number {
		root--
	}
	for (root+1)*(root+1) <= number {
		root++
	}
	return root
}

// wantedRootPairs writes the number with an even count of digits and cuts the text.
func wantedRootPairs(number int) []int {
	if number == 0 {
		return nil
	}
	text := strconv.Itoa(number)
	if len(text)%2 == 1 {
		text = "0" + text
	}
	var pairs []int
	for i := 0; i < len(text); i += 2 {
		pair, _ := strconv.Atoi(text[i : i+2])
		pairs = append(pairs, pair)
	}
	return pairs
}

// wantedRootSteps takes the squares of the roots from what the pairs up to each one show.
func wantedRootSteps(number int) [][3]int {
	var steps [][3]int
	shown, root := 0, 0
	for _, pair := range wantedRootPairs(number) {
		shown = 100*shown + pair
		next := wantedRoot(shown)
		steps = append(steps, [3]int{shown - 100*root*root, next - 10*root, shown - next*next})
		root = next
	}
	return steps
}

// checkOdds tests the promise: as many odd numbers can be taken as the whole root tells, and the
// root is whole: neither its square is too great nor is that of the next number small enough.
func checkOdds(t *testing.T, number int) {
	t.Helper()
	root, rest, ok := impl.WholeRoot(number)
	if !ok || root < 0 || rest < 0 || root*root+rest != number || (root+1)*(root+1) <= number {
		t.Errorf("WholeRoot(%d) = %d, %d, %v", number, root, rest, ok)
	}
	if n, ok := impl.OddsTaken(number); !ok || n != root {
		t.Errorf("OddsTaken(%d) = %d, %v; the whole root is %d", number, n, ok, root)
	}
}

// checkRootSteps tests the pairs and the steps of a number, and that the root has their digits and
// leaves the last rest.
func checkRootSteps(t *testing.T, number int) {
	t.Helper()
	pairs, ok := impl.PairsOf(number)
	checkInts(t, "PairsOf "+strconv.Itoa(number), pairs, ok, wantedRootPairs(number)...)
	steps, ok := impl.RootSteps(number)
	if !ok || !slices.Equal(steps, wantedRootSteps(number)) {
		t.Errorf("RootSteps(%d) = %v, %v; want %v", number, steps, ok, wantedRootSteps(number))
	}
	root, rest := 0, 0
	for _, step := range steps {
		if step[1] < 0 || step[1] > 9 {
			t.Errorf("RootSteps(%d) = %v: %d is no digit", number, steps, step[1])
		}
		root, rest = 10*root+step[1], step[2]
	}
	if a, b, ok := impl.WholeRoot(number); !ok || a != root || b != rest {
		t.Errorf("WholeRoot(%d) = %d, %d, %v; the steps are %v", number, a, b, ok, steps)
	}
}

// checkSquares tests whether a number is a square, and the next square.
func checkSquares(t *testing.T, number int) {
	t.Helper()
	root := wantedRoot(number)
	if square, ok := impl.IsSquare(number); !ok || square != (root*root == number) {
		t.Errorf("IsSquare(%d) = %v, %v; the whole root is %d", number, square, ok, root)
	}
	if n, ok := impl.NextSquare(number); !ok || n != (root+1)*(root+1) {
		t.Errorf("NextSquare(%d) = %d, %v; the whole root is %d", number, n, ok, root)
	}
}

// checkRootDecimals tests that the root with some places is whole, and begins with the one with
// fewer places.
func checkRootDecimals(t *testing.T, number int) {
	t.Helper()
	before := wantedRoot(number)
	for places := 0; places <= 4; places++ {
		n, ok := impl.RootDecimals(number, places)
		if power := number * powerOf10(2*places); !ok || n < 0 || n*n > power || (n+1)*(n+1) <= power {
			t.Errorf("RootDecimals(%d, %d) = %d, %v", number, places, n, ok)
		}
		if places > 0 && n/10 != before || places == 0 && n != before {
			t.Errorf("RootDecimals(%d, %d) = %d behind %d", number, places, n, before)
		}
		before = n
	}
}

// checkCubeRoot tests that a root's third power is not too great and that of the next number is.
func checkCubeRoot(t *testing.T, number int) {
	t.Helper()
	n, ok := impl.CubeRoot(number)
	if !ok || n < 0 || n > 464 || n*n*n > number || (n+1)*(n+1)*(n+1) <= number {
		t.Errorf("CubeRoot(%d) = %d, %v", number, n, ok)
	}
}

// checkNoSumOfTwo tests that SumOfTwo fails.
func checkNoSumOfTwo(t *testing.T, number int) {
	t.Helper()
	if pairs, ok := impl.SumOfTwo(number); ok || len(pairs) != 0 {
		t.Errorf("SumOfTwo(%d) = %v, %v", number, pairs, ok)
	}
}

// checkNoRootDecimals tests that RootDecimals fails.
func checkNoRootDecimals(t *testing.T, number, places int) {
	t.Helper()
	if n, ok := impl.RootDecimals(number, places); ok || n != 0 {
		t.Errorf("RootDecimals(%d, %d) = %d, %v", number, places, n, ok)
	}
}

// checkNoRoots tests that no function takes a number.
func checkNoRoots(t *testing.T, number int) {
	t.Helper()
	if pairs, ok := impl.PairsOf(number); ok || len(pairs) != 0 {
		t.Errorf("PairsOf(%d) = %v, %v", number, pairs, ok)
	}
	if steps, ok := impl.RootSteps(number); ok || len(steps) != 0 {
		t.Errorf("RootSteps(%d) = %v, %v", number, steps, ok)
	}
	if root, rest, ok := impl.WholeRoot(number); ok || root != 0 || rest != 0 {
		t.Errorf("WholeRoot(%d) = %d, %d, %v", number, root, rest, ok)
	}
	if square, ok := impl.IsSquare(number); ok || square {
		t.Errorf("IsSquare(%d) = %v, %v", number, square, ok)
	}
	if n, ok := impl.OddsTaken(number); ok || n != 0 {
		t.Errorf("OddsTaken(%d) = %d, %v", number, n, ok)
	}
	if n, ok := impl.NextSquare(number); ok || n != 0 {
		t.Errorf("NextSquare(%d) = %d, %v", number, n, ok)
	}
	if n, ok := impl.CubeRoot(number); ok || n != 0 {
		t.Errorf("CubeRoot(%d) = %d, %v", number, n, ok)
	}
	for places := -1; places <= 5; places++ {
		checkNoRootDecimals(t, number, places)
	}
	checkNoSumOfTwo(t, number)
}

// rootedNumbers are all short numbers, all squares and third powers and those beside them, numbers
// in the middle between two squares, numbers with long rows of 0 and 9, the greatest ones, and
// others of each length.
func rootedNumbers() []int {
	var numbers []int
	for n := range 12000 {
		numbers = append(numbers, n)
	}
	for root := 100; root <= 10000; root++ {
		numbers = append(numbers, root*root-2, root*root-1, root*root, root*root+1, root*root+root)
	}
	for root := 20; root <= 465; root++ {
		numbers = append(numbers, root*root*root-1, root*root*root, root*root*root+1)
	}
	for n := 1; n <= 9; n++ {
		for length := range 9 {
			for _, near := range []int{-1, 0, 1} {
				numbers = append(numbers, n*powerOf10(length)+near, 10*powerOf10(length)-n*powerOf10(length/2)+near)
			}
		}
	}
	random := rand.New(rand.NewSource(12))
	for range 10000 {
		numbers = append(numbers, random.Intn(100000000)/powerOf10(random.Intn(4)))
	}
	numbers = slices.DeleteFunc(numbers, func(n int) bool { return n > 99999999 })
	return append(numbers, 99999998, 99999999)
}

func TestPromise12AsManyOddNumbersAsTheRootTells(t *testing.T) {
	for _, number := range rootedNumbers() {
		checkOdds(t, number)
	}
}

// All numbers up to a square, but for it, have the same root, so that the first and the last one
// of each root show that of all numbers.
func TestPromise12FirstAndLastNumberOfEachRoot(t *testing.T) {
	for root := range 10000 {
		for _, number := range []int{root * root, (root+1)*(root+1) - 1} {
			if a, b, ok := impl.WholeRoot(number); !ok || a != root || b != number-root*root {
				t.Errorf("WholeRoot(%d) = %d, %d, %v; want %d", number, a, b, ok, root)
			}
			if n, ok := impl.OddsTaken(number); !ok || n != root {
				t.Errorf("OddsTaken(%d) = %d, %v; want %d", number, n, ok, root)
			}
		}
	}
}

func TestPromise12StepsOfRoots(t *testing.T) {
	for _, number := range rootedNumbers() {
		checkRootSteps(t, number)
	}
}

func TestPromise12KnownRoots(t *testing.T) {
	for _, c := range []struct {
		number     int
		pairs      []int
		steps      [][3]int
		root, rest int
	}{
		{12345, []int{1, 23, 45}, [][3]int{{1, 1, 0}, {23, 1, 2}, {245, 1, 24}}, 111, 24},
		{0, nil, nil, 0, 0},
		{1, []int{1}, [][3]int{{1, 1, 0}}, 1, 0},
		{2, []int{2}, [][3]int{{2, 1, 1}}, 1, 1},
		{3, []int{3}, [][3]int{{3, 1, 2}}, 1, 2},
		{4, []int{4}, [][3]int{{4, 2, 0}}, 2, 0},
		{8, []int{8}, [][3]int{{8, 2, 4}}, 2, 4},
		{9, []int{9}, [][3]int{{9, 3, 0}}, 3, 0},
		{10, []int{10}, [][3]int{{10, 3, 1}}, 3, 1},
		{80, []int{80}, [][3]int{{80, 8, 16}}, 8, 16},
		{81, []int{81}, [][3]int{{81, 9, 0}}, 9, 0},
		{99, []int{99}, [][3]int{{99, 9, 18}}, 9, 18},
		{100, []int{1, 0}, [][3]int{{1, 1, 0}, {0, 0, 0}}, 10, 0},
		{101, []int{1, 1}, [][3]int{{1, 1, 0}, {1, 0, 1}}, 10, 1},
		{120, []int{1, 20}, [][3]int{{1, 1, 0}, {20, 0, 20}}, 10, 20},
		{121, []int{1, 21}, [][3]int{{1, 1, 0}, {21, 1, 0}}, 11, 0},
		// The digit 9 behind the digit 1, and a number just below the next square.
		{361, []int{3, 61}, [][3]int{{3, 1, 2}, {261, 9, 0}}, 19, 0},
		{399, []int{3, 99}, [][3]int{{3, 1, 2}, {299, 9, 38}}, 19, 38},
		{400, []int{4, 0}, [][3]int{{4, 2, 0}, {0, 0, 0}}, 20, 0},
		{1000, []int{10, 0}, [][3]int{{10, 3, 1}, {100, 1, 39}}, 31, 39},
		{2401, []int{24, 1}, [][3]int{{24, 4, 8}, {801, 9, 0}}, 49, 0},
		{2400, []int{24, 0}, [][3]int{{24, 4, 8}, {800, 8, 96}}, 48, 96},
		{10000, []int{1, 0, 0}, [][3]int{{1, 1, 0}, {0, 0, 0}, {0, 0, 0}}, 100, 0},
		{10807, []int{1, 8, 7}, [][3]int{{1, 1, 0}, {8, 0, 8}, {807, 3, 198}}, 103, 198},
		{10201, []int{1, 2, 1}, [][3]int{{1, 1, 0}, {2, 0, 2}, {201, 1, 0}}, 101, 0},
		{160000, []int{16, 0, 0}, [][3]int{{16, 4, 0}, {0, 0, 0}, {0, 0, 0}}, 400, 0},
		{166464, []int{16, 64, 64}, [][3]int{{16, 4, 0}, {64, 0, 64}, {6464, 8, 0}}, 408, 0},
		{998001, []int{99, 80, 1}, [][3]int{{99, 9, 18}, {1880, 9, 179}, {17901, 9, 0}}, 999, 0},
		{1000000, []int{1, 0, 0, 0}, [][3]int{{1, 1, 0}, {0, 0, 0}, {0, 0, 0}, {0, 0, 0}}, 1000, 0},
		{4000008, []int{4, 0, 0, 8}, [][3]int{{4, 2, 0}, {0, 0, 0}, {0, 0, 0}, {8, 0, 8}}, 2000, 8},
		{99980000, []int{99, 98, 0, 0}, [][3]int{{99, 9, 18}, {1898, 9, 197}, {19700, 9, 1799}, {179900, 8, 19996}}, 9998, 19996},
		{99980001, []int{99, 98, 0, 1}, [][3]int{{99, 9, 18}, {1898, 9, 197}, {19700, 9, 1799}, {179901, 9, 0}}, 9999, 0},
		{99999999, []int{99, 99, 99, 99}, [][3]int{{99, 9, 18}, {1899, 9, 198}, {19899, 9, 1998}, {199899, 9, 19998}}, 9999, 19998},
	} {
		pairs, ok := impl.PairsOf(c.number)
		checkInts(t, "PairsOf "+strconv.Itoa(c.number), pairs, ok, c.pairs...)
		if steps, ok := impl.RootSteps(c.number); !ok || !slices.Equal(steps, c.steps) {
			t.Errorf("RootSteps(%d) = %v, %v; want %v", c.number, steps, ok, c.steps)
		}
		if root, rest, ok := impl.WholeRoot(c.number); !ok || root != c.root || rest != c.rest {
			t.Errorf("WholeRoot(%d) = %d, %d, %v; want %d, %d", c.number, root, rest, ok, c.root, c.rest)
		}
		if n, ok := impl.OddsTaken(c.number); !ok || n != c.root {
			t.Errorf("OddsTaken(%d) = %d, %v; want %d", c.number, n, ok, c.root)
		}
	}
}

func TestPromise12NumbersOutsideOfTheirRangeHaveZeroValues(t *testing.T) {
	for _, number := range append(numbersOutside(0, 99999999), -100, -81, -9, -4, 100020001, 199999999, 1000000000, 10000000000000000) {
		checkNoRoots(t, number)
	}
}

func TestSquares(t *testing.T) {
	for _, number := range rootedNumbers() {
		checkSquares(t, number)
	}
}

func TestKnownSquares(t *testing.T) {
	for _, c := range []struct {
		number int
		square bool
		next   int
	}{
		{0, true, 1}, {1, true, 4}, {2, false, 4}, {3, false, 4}, {4, true, 9}, {8, false, 9}, {9, true, 16}, {15, false, 16}, {16, true, 25}, {17, false, 25}, {24, false, 25}, {99, false, 100}, {100, true, 121}, {101, false, 121}, {143, false, 144}, {144, true, 169}, {145, false, 169}, {1000, false, 1024}, {10000, true, 10201}, {100000, false, 100489}, {1000000, true, 1002001},
		{99960003, false, 99960004}, {99960004, true, 99980001}, {99980000, false, 99980001}, {99980001, true, 100000000}, {99980002, false, 100000000}, {99999998, false, 100000000}, {99999999, false, 100000000},
	} {
		if square, ok := impl.IsSquare(c.number); !ok || square != c.square {
			t.Errorf("IsSquare(%d) = %v, %v", c.number, square, ok)
		}
		if n, ok := impl.NextSquare(c.number); !ok || n != c.next {
			t.Errorf("NextSquare(%d) = %d, %v; want %d", c.number, n, ok, c.next)
		}
	}
}

func TestRootDecimals(t *testing.T) {
	for _, number := range rootedNumbers() {
		checkRootDecimals(t, number)
	}
}

func TestKnownRootDecimals(t *testing.T) {
	for _, c := range [][3]int{
		{2, 3, 1414},
		{0, 0, 0}, {0, 1, 0}, {0, 4, 0},
		{1, 0, 1}, {1, 1, 10}, {1, 4, 10000},
		{2, 0, 1}, {2, 1, 14}, {2, 2, 141}, {2, 4, 14142},
		{3, 4, 17320}, {4, 0, 2}, {4, 4, 20000}, {8, 4, 28284}, {10, 4, 31622},
		// Just below a square, the digits behind the point are 9 at first.
		{15, 4, 38729}, {16, 2, 400}, {99, 0, 9}, {99, 4, 99498}, {100, 4, 100000}, {9999, 4, 999949}, {999999, 3, 999999}, {999999, 4, 9999994},
		{12345, 2, 11110}, {99980000, 4, 99989999}, {99980001, 0, 9999}, {99980001, 4, 99990000},
		{99999999, 0, 9999}, {99999999, 1, 99999}, {99999999, 2, 999999}, {99999999, 3, 9999999}, {99999999, 4, 99999999},
	} {
		if n, ok := impl.RootDecimals(c[0], c[1]); !ok || n != c[2] {
			t.Errorf("RootDecimals(%d, %d) = %d, %v; want %d", c[0], c[1], n, ok, c[2])
		}
	}
}

func TestOtherPlacesHaveZeroValues(t *testing.T) {
	for _, number := range []int{0, 1, 2, 9, 16, 12345, 99980001, 99999999} {
		for _, places := range numbersOutside(0, 4) {
			checkNoRootDecimals(t, number, places)
		}
	}
}

// All pairs of numbers up to 100 are laid to their sums, by ascending first numbers.
func TestSumsOfTwoSquares(t *testing.T) {
	wanted := map[int][][2]int{}
	for a := range 101 {
		for b := a; b <= 100; b++ {
			wanted[a*a+b*b] = append(wanted[a*a+b*b], [2]int{a, b})
		}
	}
	for number := 0; number <= 10000; number++ {
		if pairs, ok := impl.SumOfTwo(number); !ok || !slices.Equal(pairs, wanted[number]) {
			t.Errorf("SumOfTwo(%d) = %v, %v; want %v", number, pairs, ok, wanted[number])
		}
	}
	for number := 10001; number <= 20001; number++ {
		checkNoSumOfTwo(t, number)
	}
}

func TestKnownSumsOfTwoSquares(t *testing.T) {
	for _, c := range []struct {
		number int
		want   [][2]int
	}{
		{0, [][2]int{{0, 0}}},
		{1, [][2]int{{0, 1}}},
		{2, [][2]int{{1, 1}}},
		{3, nil},
		{4, [][2]int{{0, 2}}},
		{5, [][2]int{{1, 2}}},
		{7, nil},
		{8, [][2]int{{2, 2}}},
		{9, [][2]int{{0, 3}}},
		{25, [][2]int{{0, 5}, {3, 4}}},
		{50, [][2]int{{1, 7}, {5, 5}}},
		{325, [][2]int{{1, 18}, {6, 17}, {10, 15}}},
		{1105, [][2]int{{4, 33}, {9, 32}, {12, 31}, {23, 24}}},
		{5000, [][2]int{{10, 70}, {34, 62}, {50, 50}}},
		{5525, [][2]int{{7, 74}, {14, 73}, {22, 71}, {25, 70}, {41, 62}, {50, 55}}},
		{9801, [][2]int{{0, 99}}},
		{9802, [][2]int{{1, 99}, {39, 91}, {69, 71}}},
		{9999, nil},
		{10000, [][2]int{{0, 100}, {28, 96}, {60, 80}}},
	} {
		if pairs, ok := impl.SumOfTwo(c.number); !ok || !slices.Equal(pairs, c.want) {
			t.Errorf("SumOfTwo(%d) = %v, %v; want %v", c.number, pairs, ok, c.want)
		}
	}
	for _, number := range append(numbersOutside(0, 10000), 10001, 10201, 12345, 99980001, 99999999, 100000000) {
		checkNoSumOfTwo(t, number)
	}
}

func TestCubeRoots(t *testing.T) {
	for _, number := range rootedNumbers() {
		checkCubeRoot(t, number)
	}
}

// As with squares, the first and the last number of each root show that of all numbers.
func TestFirstAndLastNumberOfEachCubeRoot(t *testing.T) {
	for root := range 465 {
		last := min((root+1)*(root+1)*(root+1)-1, 99999999)
		for _, number := range []int{root * root * root, last} {
			if n, ok := impl.CubeRoot(number); !ok || n != root {
				t.Errorf("CubeRoot(%d) = %d, %v; want %d", number, n, ok, root)
			}
		}
	}
}

func TestKnownCubeRoots(t *testing.T) {
	for _, c := range [][2]int{
		{0, 0}, {1, 1}, {2, 1}, {7, 1}, {8, 2}, {9, 2}, {26, 2}, {27, 3}, {28, 3}, {63, 3}, {64, 4}, {124, 4}, {125, 5}, {511, 7}, {512, 8}, {513, 8}, {999, 9}, {1000, 10}, {1001, 10}, {4095, 15}, {4096, 16}, {999999, 99}, {1000000, 100}, {16777215, 255}, {16777216, 256}, {63999999, 399}, {64000000, 400},
		{99897343, 463}, {99897344, 464}, {99897345, 464}, {99999999, 464},
	} {
		if n, ok := impl.CubeRoot(c[0]); !ok || n != c[1] {
			t.Errorf("CubeRoot(%d) = %d, %v; want %d", c[0], n, ok, c[1])
		}
	}
}

// callRootFunctions calls each function and returns the lists among the results.
func callRootFunctions(number, places int) ([]int, [][3]int, [][2]int) {
	impl.WholeRoot(number)
	impl.IsSquare(number)
	impl.OddsTaken(number)
	impl.RootDecimals(number, places)
	impl.NextSquare(number)
	impl.CubeRoot(number)
	pairs, _ := impl.PairsOf(number)
	steps, _ := impl.RootSteps(number)
	sums, _ := impl.SumOfTwo(number)
	return pairs, steps, sums
}

func TestPromise29RootsReturnForAllArguments(t *testing.T) {
	numbers := []int{math.MinInt, math.MinInt + 1, -1 << 32, -10000, -1, 0, 1, 3, 4, 5, 9, 10, 99, 100, 10000, 10001, 99980001, 99999999, 100000000, 1 << 32, math.MaxInt - 1, math.MaxInt}
	for _, number := range numbers {
		for _, places := range numbers {
			callRootFunctions(number, places)
		}
	}
}

func TestPromise29ResultsOfRootsShareNoMemory(t *testing.T) {
	pairs, steps, sums := callRootFunctions(5525, 4)
	again, moreSteps, moreSums := callRootFunctions(5525, 4)
	if len(pairs) != 2 || len(steps) != 2 || len(sums) != 6 {
		t.Fatal("not all calls had results", pairs, steps, sums)
	}
	checkListsApart(t, [][]int{pairs, again})
	clear(steps)
	clear(sums)
	if !slices.Equal(moreSteps, wantedRootSteps(5525)) || moreSums[0] != [2]int{7, 74} || moreSums[5] != [2]int{50, 55} {
		t.Error("results of two calls share memory:", moreSteps, moreSums)
	}
	checkRootSteps(t, 5525)
}
