package tests

import (
	"math"
	"math/rand"
	"slices"
	"strconv"
	"strings"
	"testing"

	"loop.example/g01006/impl"
)

// edgeCounts are numbers of counters just at and beside those from which on a carry is possible,
// and at and below MaxCounters.
var edgeCounts = []int{0, 1, 2, 4, 5, 6, 9, 10, 24, 25, 26, 28, 29, 30}

// flatBoard returns the board with counters given as line, space, line, space, from the units on.
func flatBoard(counters []int) impl.Board {
	var b impl.Board
	for i := 0; i < len(counters); i += 2 {
		b.Lines = append(b.Lines, counters[i])
		b.Spaces = append(b.Spaces, counters[i+1])
	}
	return b
}

// fullBoard returns a board with equal numbers of counters on all lines and in all spaces.
func fullBoard(lines, onLine, inSpace int) impl.Board {
	return impl.Board{Lines: slices.Repeat([]int{onLine}, lines), Spaces: slices.Repeat([]int{inSpace}, lines)}
}

// boardsOver returns all boards with a number of lines that have some numbers of counters.
func boardsOver(lines int, counts []int) []impl.Board {
	all := [][]int{{}}
	for range 2 * lines {
		var longer [][]int
		for _, list := range all {
			for _, n := range counts {
				longer = append(longer, append(slices.Clip(list), n))
			}
		}
		all = longer
	}
	var boards []impl.Board
	for _, list := range all {
		boards = append(boards, flatBoard(list))
	}
	return boards
}

// randomBoards returns boards of 1..MaxLines lines, always the same ones; many of their counters
// are at the limits.
func randomBoards(n int) []impl.Board {
	random := rand.New(rand.NewSource(5))
	var boards []impl.Board
	for i := range n {
		counters := make([]int, 2*(1+random.Intn(impl.MaxLines)))
		for j := range counters {
			switch i % 3 {
			case 0:
				counters[j] = random.Intn(impl.MaxCounters + 1)
			case 1:
				counters[j] = edgeCounts[random.Intn(len(edgeCounts))]
			default:
				counters[j] = random.Intn(8)
			}
		}
		boards = append(boards, flatBoard(counters))
	}
	return boards
}

// someBoards are all boards with one line, many with two, and some with up to MaxLines.
func someBoards() []impl.Board {
	var every []int
	for n := range impl.MaxCounters + 1 {
		every = append(every, n)
	}
	boards := append(boardsOver(1, every), boardsOver(2, []int{0, 1, 4, 5, 25, 29, 30})...)
	boards = append(boards, boardsOver(3, []int{0, 5, 30})...)
	for lines := 1; lines <= impl.MaxLines; lines++ {
		for _, onLine := range edgeCounts {
			for _, inSpace := range edgeCounts {
				boards = append(boards, fullBoard(lines, onLine, inSpace))
			}
		}
	}
	return append(boards, randomBoards(6000)...)
}

// invalidBoards are boards that differ from valid ones in just one place, and worse ones.
func invalidBoards() []impl.Board {
	boards := []impl.Board{{}, {Lines: []int{}, Spaces: []int{}}, {Lines: []int{1}}, {Spaces: []int{1}}, {Lines: []int{1}, Spaces: []int{}},
		{Lines: []int{1, 2}, Spaces: []int{0}}, {Lines: []int{1}, Spaces: []int{0, 0}}, {Lines: []int{0}, Spaces: make([]int, impl.MaxLines)}, {Lines: make([]int, impl.MaxLines), Spaces: []int{0}},
		{Lines: make([]int, impl.MaxLines), Spaces: make([]int, impl.MaxLines+1)}, {Lines: make([]int, impl.MaxLines+1), Spaces: make([]int, impl.MaxLines)},
		fullBoard(impl.MaxLines+1, 0, 0), fullBoard(impl.MaxLines+1, 30, 30), fullBoard(impl.MaxLines+1, 6, 2), fullBoard(2*impl.MaxLines, 1, 1), fullBoard(1<<16, 5, 2)}
	for _, n := range []int{math.MinInt, math.MinInt + 1, -1 << 32, -5, -2, -1, impl.MaxCounters + 1, impl.MaxCounters + 2, 1 << 32, 1<<32 + 5, math.MaxInt - 1, math.MaxInt} {
		for _, lines := range []int{1, 2, impl.MaxLines} {
			for k := range lines {
				for _, rest := range []int{0, 6, impl.MaxCounters} {
					onLine, inSpace := fullBoard(lines, rest, rest), fullBoard(lines, rest, rest)
					onLine.Lines[k] = n
					inSpace.Spaces[k] = n
					boards = append(boards, onLine, inSpace)
				}
			}
		}
	}
	return boards
}

// cloneBoard returns a board with memory of its own.
func cloneBoard(b impl.Board) impl.Board {
	return impl.Board{Lines: slices.Clone(b.Lines), Spaces: slices.Clone(b.Spaces)}
}

func sameBoard(a, b impl.Board) bool {
	return slices.Equal(a.Lines, b.Lines) && slices.Equal(a.Spaces, b.Spaces)
}

// checkBoard tests a result against the board that is wanted, or against none if there is none.
func checkBoard(t *testing.T, what string, got impl.Board, ok bool, want impl.Board, there bool) {
	t.Helper()
	if !there {
		want = impl.Board{}
	}
	if ok != there || !sameBoard(got, want) {
		t.Errorf("%s: %v, %v; want %v, %v", what, got, ok, want, there)
	}
}

// parsedBoard reads a board from the text that is wanted for it.
func parsedBoard(t *testing.T, text string) impl.Board {
	t.Helper()
	var b impl.Board
	for _, word := range strings.Fields(text) {
		space, line, _ := strings.Cut(word, "/")
		inSpace, err := strconv.Atoi(space)
		onLine, other := strconv.Atoi(line)
		if err != nil || other != nil {
			t.Fatal("no board:", text)
		}
		b.Lines = append(b.Lines, onLine)
		b.Spaces = append(b.Spaces, inSpace)
	}
	slices.Reverse(b.Lines)
	slices.Reverse(b.Spaces)
	return b
}

// wantedBoardText joins a word for each line.
func wantedBoardText(b impl.Board) string {
	words := []string{}
	for k := range b.Lines {
		words = append(words, strconv.Itoa(b.Spaces[k])+"/"+strconv.Itoa(b.Lines[k]))
	}
	slices.Reverse(words)
	return strings.Join(words, " ")
}

// wantedValue counts each counter by the power of 10 of its line.
func wantedValue(b impl.Board) int {
	sum := 0
	for k := range b.Lines {
		sum += b.Lines[k]*powerOf10(k) + b.Spaces[k]*5*powerOf10(k)
	}
	return sum
}

// wantedSet looks up the counters of each digit.
func wantedSet(lines, n int) (impl.Board, bool) {
	if lines < 1 || lines > 6 || n < 0 || n >= powerOf10(lines) {
		return impl.Board{}, false
	}
	digits := strconv.Itoa(n)
	digits = strings.Repeat("0", lines-len(digits)) + digits
	onLine := [10]int{0, 1, 2, 3, 4, 0, 1, 2, 3, 4}
	inSpace := [10]int{0, 0, 0, 0, 0, 1, 1, 1, 1, 1}
	var b impl.Board
	for i := lines - 1; i >= 0; i-- {
		b.Lines = append(b.Lines, onLine[digits[i]-'0'])
		b.Spaces = append(b.Spaces, inSpace[digits[i]-'0'])
	}
	return b, true
}

// wantedCarried makes one carry on a valid board.
func wantedCarried(b impl.Board, line bool, k int) (impl.Board, bool) {
	b = cloneBoard(b)
	switch {
	case k < 0 || k >= len(b.Lines):
		return impl.Board{}, false
	case line:
		if b.Lines[k] < 5 || b.Spaces[k] == 30 {
			return impl.Board{}, false
		}
		b.Lines[k] -= 5
		b.Spaces[k]++
	default:
		if b.Spaces[k] < 2 || k == len(b.Lines)-1 || b.Lines[k+1] == 30 {
			return impl.Board{}, false
		}
		b.Spaces[k] -= 2
		b.Lines[k+1]++
	}
	return b, true
}

// wantedBorrowed makes one borrow on a valid board.
func wantedBorrowed(b impl.Board, line bool, k int) (impl.Board, bool) {
	b = cloneBoard(b)
	switch {
	case k < 0 || k >= len(b.Lines):
		return impl.Board{}, false
	case line:
		if b.Spaces[k] == 0 || b.Lines[k] > 25 {
			return impl.Board{}, false
		}
		b.Spaces[k]--
		b.Lines[k] += 5
	default:
		if k == len(b.Lines)-1 || b.Lines[k+1] == 0 || b.Spaces[k] > 28 {
			return impl.Board{}, false
		}
		b.Lines[k+1]--
		b.Spaces[k] += 2
	}
	return b, true
}

// wantedPlain makes one carry after the other from the units upwards.
func wantedPlain(b impl.Board) (impl.Board, int, bool) {
	carries := 0
	for k := range b.Lines {
		for _, line := range []bool{true, false} {
			for line && b.Lines[k] > 4 || !line && b.Spaces[k] > 1 {
				next, ok := wantedCarried(b, line, k)
				if !ok {
					return impl.Board{}, 0, false
				}
				b = next
				carries++
			}
		}
	}
	return b, carries, true
}

// placesToTry are all places of a board, and some that it does not have.
func placesToTry(lines int) []int {
	list := []int{math.MinInt, math.MinInt + 1, -1 << 32, -lines, -2, -1, lines, lines + 1, impl.MaxLines, 2 * impl.MaxLines, 1 << 32, 1 << 62, 1<<62 + 1, 1 << 63 / 2, math.MaxInt - 1, math.MaxInt}
	for k := range lines {
		list = append(list, k)
	}
	return list
}

func TestPromise5CarriesKeepTheValueAndBorrowsUndoThem(t *testing.T) {
	carried := 0
	for _, b := range someBoards() {
		for _, line := range []bool{true, false} {
			for k := range b.Lines {
				c, ok := impl.CarryAt(b, line, k)
				if !ok {
					continue
				}
				carried++
				before, _ := impl.BoardValue(b)
				if n, fine := impl.BoardValue(c); !fine || n != before || n != wantedValue(b) {
					t.Errorf("%v with the value %d carried at %v, %d is %v with %d, %v", b, before, line, k, c, n, fine)
				}
				back, ok := impl.BorrowAt(c, line, k)
				checkBoard(t, "carried and borrowed", back, ok, b, true)
			}
		}
	}
	if carried < 1000 {
		t.Error("only", carried, "carries were possible")
	}
}

func TestPromise5BorrowsKeepTheValueAndCarriesUndoThem(t *testing.T) {
	borrowed := 0
	for _, b := range someBoards() {
		for _, line := range []bool{true, false} {
			for k := range b.Lines {
				c, ok := impl.BorrowAt(b, line, k)
				if !ok {
					continue
				}
				borrowed++
				if n, fine := impl.BoardValue(c); !fine || n != wantedValue(b) {
					t.Errorf("%v borrowed at %v, %d is %v with %d, %v", b, line, k, c, n, fine)
				}
				back, ok := impl.CarryAt(c, line, k)
				checkBoard(t, "borrowed and carried", back, ok, b, true)
			}
		}
	}
	if borrowed < 1000 {
		t.Error("only", borrowed, "borrows were possible")
	}
}

func TestPromise5CarriesAndBorrowsAtAllPlaces(t *testing.T) {
	for _, b := range someBoards() {
		for _, line := range []bool{true, false} {
			for _, k := range placesToTry(len(b.Lines)) {
				want, there := wantedCarried(b, line, k)
				c, ok := impl.CarryAt(b, line, k)
				checkBoard(t, wantedBoardText(b)+" carried", c, ok, want, there)
				want, there = wantedBorrowed(b, line, k)
				c, ok = impl.BorrowAt(b, line, k)
				checkBoard(t, wantedBoardText(b)+" borrowed", c, ok, want, there)
			}
		}
	}
}

func TestPromise5KnownCarriesAndBorrows(t *testing.T) {
	for _, c := range []struct {
		from   string
		line   bool
		k      int
		carry  string
		borrow string
	}{
		{"0/4 1/7", true, 0, "0/4 2/2", "0/4 0/12"},
		{"0/4 1/7", false, 0, "", "0/3 3/7"},
		{"0/4 2/7", false, 0, "0/5 0/7", "0/3 4/7"},
		{"0/4 1/7", true, 1, "", ""},
		{"2/5 1/7", true, 1, "3/0 1/7", "1/10 1/7"},
		{"2/5 2/7", false, 1, "", ""},
		{"30/30", false, 0, "", ""},
		{"30/30", true, 0, "", ""},
		{"29/30", true, 0, "30/25", ""},
		{"30/25", true, 0, "", "29/30"},
		{"30/26", true, 0, "", ""},
		{"0/25", true, 0, "1/20", ""},
		{"1/0", true, 0, "", "0/5"},
		{"0/4", true, 0, "", ""},
		{"0/5", true, 0, "1/0", ""},
		{"0/29 2/0", false, 0, "0/30 0/0", "0/28 4/0"},
		{"0/30 2/0", false, 0, "", "0/29 4/0"},
		{"0/0 28/0", false, 0, "0/1 26/0", ""},
		{"0/1 28/0", false, 0, "0/2 26/0", "0/0 30/0"},
		{"0/1 29/0", false, 0, "0/2 27/0", ""},
		{"0/1 0/0 1/0", false, 1, "", "0/0 2/0 1/0"},
		{"1/4 1/4 1/4 1/4 1/4 1/4", false, 4, "", "1/3 3/4 1/4 1/4 1/4 1/4"},
		{"2/4 1/4 1/4 1/4 1/4 1/4", false, 5, "", ""},
	} {
		b := parsedBoard(t, c.from)
		got, ok := impl.CarryAt(b, c.line, c.k)
		checkBoard(t, c.from+" carried", got, ok, parsedBoard(t, c.carry), c.carry != "")
		got, ok = impl.BorrowAt(b, c.line, c.k)
		checkBoard(t, c.from+" borrowed", got, ok, parsedBoard(t, c.borrow), c.borrow != "")
	}
}

func TestPromise5PlainBoardsKeepTheValue(t *testing.T) {
	possible, impossible := 0, 0
	for _, b := range append(someBoards(), boardsOver(2, edgeCounts)...) {
		want, carries, there := wantedPlain(b)
		p, n, ok := impl.PlainBoard(b)
		checkBoard(t, wantedBoardText(b)+" made plain", p, ok, want, there)
		if n != carries {
			t.Errorf("%v is made plain by %d carries; want %d", b, n, carries)
		}
		if !there {
			impossible++
			continue
		}
		possible++
		if y, fine := impl.IsPlain(p); !fine || !y {
			t.Errorf("%v made plain is %v, which is not", b, p)
		}
		set, fine := impl.SetBoard(len(b.Lines), wantedValue(b))
		checkBoard(t, "SetBoard with the value of "+wantedBoardText(b), set, fine, p, true)
		again, n, fine := impl.PlainBoard(p)
		checkBoard(t, "made plain again", again, fine, p, true)
		if n != 0 {
			t.Errorf("%v is plain, but has %d carries", p, n)
		}
	}
	if possible < 1000 || impossible < 1000 {
		t.Error("too few boards can or cannot be made plain:", possible, impossible)
	}
}

func TestPromise5KnownPlainBoards(t *testing.T) {
	for _, c := range []struct {
		from    string
		plain   string
		carries int
	}{
		{"0/4 1/7", "1/0 0/2", 3},
		{"1/4 1/4", "1/4 1/4", 0},
		{"0/0", "0/0", 0},
		{"0/5", "1/0", 1},
		{"1/5", "", 0},
		{"2/0", "", 0},
		{"0/10", "", 0},
		{"1/4", "1/4", 0},
		{"1/3 1/9", "1/4 0/4", 2},
		{"1/4 1/5", "", 0},
		{"1/4 2/0", "", 0},
		{"0/0 0/30", "0/3 0/0", 9},
		{"0/0 24/30", "", 0},
		{"0/0 0/0 24/30", "0/1 1/0 0/0", 25},
		{"0/0 0/0 25/30", "", 0},
		{"0/0 0/0 25/29", "0/1 1/0 0/4", 24},
		{"0/0 0/0 26/25", "", 0},
		{"0/0 0/0 30/4", "0/1 1/0 0/4", 19},
		{"0/0 0/0 30/5", "", 0},
		{"0/0 0/30 2/0", "", 0},
		{"0/0 0/29 2/0", "0/3 0/0 0/0", 10},
		{"0/0 0/29 3/0", "0/3 0/0 1/0", 10},
		{"0/0 0/29 4/0", "", 0},
		{"0/0 0/29 1/5", "0/3 0/0 0/0", 11},
		{"0/0 30/0 2/5", "", 0},
		{"1/4 1/4 1/4 1/4 1/4 1/5", "", 0},
		{"1/4 1/4 1/4 1/4 1/3 1/5", "1/4 1/4 1/4 1/4 1/4 0/0", 2},
		{"0/0 0/9 0/9 0/9 0/9 0/10", "0/1 0/0 0/0 0/0 0/0 0/0", 15},
	} {
		b := parsedBoard(t, c.from)
		p, n, ok := impl.PlainBoard(b)
		checkBoard(t, c.from+" made plain", p, ok, parsedBoard(t, c.plain), c.plain != "")
		if n != c.carries {
			t.Errorf("%s is made plain by %d carries; want %d", c.from, n, c.carries)
		}
	}
}

func TestBoardsAreValid(t *testing.T) {
	for _, b := range someBoards() {
		if !impl.IsBoard(b) {
			t.Errorf("IsBoard(%v) is false", b)
		}
	}
	for _, b := range invalidBoards() {
		if impl.IsBoard(b) {
			t.Errorf("IsBoard is true for a board with %d lines and %d spaces", len(b.Lines), len(b.Spaces))
		}
	}
	if impl.MaxLines != 6 || impl.MaxCounters != 30 {
		t.Error("limits", impl.MaxLines, impl.MaxCounters)
	}
}

func TestBoardsWithOneToMaxLinesAndAsManySpacesAreValid(t *testing.T) {
	for lines := range 2*impl.MaxLines + 2 {
		for spaces := range 2*impl.MaxLines + 2 {
			b := impl.Board{Lines: make([]int, lines), Spaces: make([]int, spaces)}
			if ok := impl.IsBoard(b); ok != (lines == spaces && lines >= 1 && lines <= 6) {
				t.Errorf("IsBoard with %d lines and %d spaces is %v", lines, spaces, ok)
			}
		}
	}
}

func TestPlainBoardsAreThoseWithFewCounters(t *testing.T) {
	boards := append(someBoards(), boardsOver(2, []int{0, 1, 2, 3, 4, 5})...)
	boards = append(boards, parsedBoard(t, "1/4 1/4 1/4 1/4 1/4 1/4"), parsedBoard(t, "2/4 1/4 1/4 1/4 1/4 1/4"), parsedBoard(t, "1/5 1/4 1/4 1/4 1/4 1/4"))
	for _, b := range boards {
		want := slices.Max(b.Lines) <= 4 && slices.Max(b.Spaces) <= 1
		if y, ok := impl.IsPlain(b); !ok || y != want {
			t.Errorf("IsPlain(%v) = %v, %v", b, y, ok)
		}
	}
}

func TestValuesOfBoards(t *testing.T) {
	for _, b := range someBoards() {
		if n, ok := impl.BoardValue(b); !ok || n != wantedValue(b) {
			t.Errorf("BoardValue(%v) = %d, %v; want %d", b, n, ok, wantedValue(b))
		}
	}
	for text, want := range map[string]int{"0/4 1/7": 52, "0/0": 0, "0/1": 1, "1/0": 5, "30/30": 180, "0/1 0/0": 10, "1/0 0/0": 50, "1/0 0/0 0/0 0/0 0/0 0/0": 500000, "0/1 0/0 0/0 0/0 0/0 0/0": 100000,
		"1/4 1/4 1/4 1/4 1/4 1/4": 999999, "30/30 30/30 30/30 30/30 30/30 30/30": 19999980, "0/6 0/5 0/4 0/3 0/2 0/1": 654321} {
		if n, ok := impl.BoardValue(parsedBoard(t, text)); !ok || n != want {
			t.Errorf("BoardValue(%s) = %d, %v; want %d", text, n, ok, want)
		}
	}
}

func TestBoardsAreSetForAllShortValues(t *testing.T) {
	for lines := -2; lines <= impl.MaxLines+3; lines++ {
		for n := -1100; n <= 1100; n++ {
			checkSetBoard(t, lines, n)
		}
	}
}

func TestBoardsAreSetForValuesAtTheLimits(t *testing.T) {
	for lines := -2; lines <= impl.MaxLines+3; lines++ {
		for digits := range 10 {
			for by := -1; by <= 1; by++ {
				checkSetBoard(t, lines, powerOf10(digits)+by)
				checkSetBoard(t, lines, 5*powerOf10(digits)+by)
			}
		}
		for _, n := range []int{math.MinInt, -1 << 32, -999999, 123456, 987654, 99999, 999999, 19999980, 1 << 32, math.MaxInt - 1, math.MaxInt} {
			checkSetBoard(t, lines, n)
		}
	}
	for _, lines := range []int{math.MinInt, -1 << 32, 1 << 32, 1<<32 + 1, math.MaxInt} {
		checkSetBoard(t, lines, 0)
		checkSetBoard(t, lines, 7)
	}
}

func checkSetBoard(t *testing.T, lines, n int) {
	t.Helper()
	want, there := wantedSet(lines, n)
	b, ok := impl.SetBoard(lines, n)
	checkBoard(t, "SetBoard "+strconv.Itoa(lines)+" "+strconv.Itoa(n), b, ok, want, there)
	if v, fine := impl.BoardValue(b); there && (!fine || v != n) {
		t.Errorf("SetBoard(%d, %d) has the value %d, %v", lines, n, v, fine)
	}
}

// checkJoined tests a joined board in both orders.
func checkJoined(t *testing.T, a, b impl.Board) {
	t.Helper()
	there := len(a.Lines) == len(b.Lines)
	var want impl.Board
	for k := 0; there && k < len(a.Lines); k++ {
		want.Lines = append(want.Lines, a.Lines[k]+b.Lines[k])
		want.Spaces = append(want.Spaces, a.Spaces[k]+b.Spaces[k])
	}
	there = there && slices.Max(want.Lines) <= 30 && slices.Max(want.Spaces) <= 30
	c, ok := impl.JoinBoards(a, b)
	checkBoard(t, "joined", c, ok, want, there)
	c, ok = impl.JoinBoards(b, a)
	checkBoard(t, "joined the other way", c, ok, want, there)
}

func TestJoinedBoardsHaveAllCounters(t *testing.T) {
	boards := append(randomBoards(300), boardsOver(1, edgeCounts)...)
	for i, a := range boards {
		for j := i; j < len(boards); j += 7 {
			checkJoined(t, a, boards[j])
		}
		checkJoined(t, a, a)
	}
	for lines := 1; lines <= impl.MaxLines; lines++ {
		checkJoined(t, fullBoard(lines, 15, 10), fullBoard(lines, 15, 20))
		checkJoined(t, fullBoard(lines, 0, 30), fullBoard(lines, 30, 0))
		checkJoined(t, fullBoard(lines, 0, 0), fullBoard(lines%impl.MaxLines+1, 0, 0))
		for k := range lines {
			one, other := fullBoard(lines, 15, 10), fullBoard(lines, 15, 20)
			one.Lines[k]++
			checkJoined(t, one, other)
			one, other = fullBoard(lines, 15, 10), fullBoard(lines, 15, 20)
			other.Spaces[k]++
			checkJoined(t, one, other)
		}
	}
}

// checkTaken tests what one board less another is.
func checkTaken(t *testing.T, a, b impl.Board) {
	t.Helper()
	want, there := wantedSet(len(a.Lines), wantedValue(a)-wantedValue(b))
	c, ok := impl.TakeAway(a, b)
	checkBoard(t, wantedBoardText(a)+" less "+wantedBoardText(b), c, ok, want, there)
}

func TestTakenAwayBoardsAreDifferences(t *testing.T) {
	boards := append(randomBoards(400), boardsOver(1, edgeCounts)...)
	for i, a := range boards {
		for j := i % 3; j < len(boards); j += 3 {
			checkTaken(t, a, boards[j])
		}
		checkTaken(t, a, a)
	}
}

func TestKnownDifferencesOfBoards(t *testing.T) {
	for _, c := range [][3]string{
		{"0/4 1/7", "1/3", "0/4 0/4"},
		{"0/1", "1/4", ""},
		{"0/1", "0/1", "0/0"},
		{"1/0", "0/5", "0/0"},
		{"0/5", "1/0", "0/0"},
		{"0/0", "0/1", ""},
		{"0/10", "0/0", ""},
		{"0/10", "0/1", "1/4"},
		{"0/10", "0/1 0/0", "0/0"},
		{"0/10", "0/1 0/1", ""},
		{"0/1 0/0", "0/10", "0/0 0/0"},
		{"0/1 0/0", "0/9", "0/0 0/1"},
		{"30/30", "30/29", "0/1"},
		{"2/0 0/0", "0/0 0/0", ""},
		{"2/0 0/0", "0/0 0/1", "1/4 1/4"},
		{"30/30", "0/17 0/1", "1/4"},
		{"30/30", "0/17 0/0", ""},
		{"30/30 30/30 30/30 30/30 30/30 30/30", "30/30 30/30 30/30 30/30 30/30 30/30", "0/0 0/0 0/0 0/0 0/0 0/0"},
		{"30/30 30/30 30/30 30/30 30/30 30/30", "30/20 30/30 30/30 30/30 30/30 30/30", ""},
		{"30/30 30/30 30/30 30/30 30/30 30/30", "30/21 30/30 30/30 30/30 30/30 30/30", "1/4 0/0 0/0 0/0 0/0 0/0"},
		{"0/10 0/0 0/0 0/0 0/0 0/0", "0/1", "1/4 1/4 1/4 1/4 1/4 1/4"},
		{"0/10 0/0 0/0 0/0 0/0 0/0", "0/0", ""},
	} {
		b, ok := impl.TakeAway(parsedBoard(t, c[0]), parsedBoard(t, c[1]))
		checkBoard(t, c[0]+" less "+c[1], b, ok, parsedBoard(t, c[2]), c[2] != "")
	}
}

func TestCountersAndTextsOfBoards(t *testing.T) {
	for _, b := range someBoards() {
		want := 0
		for k := range b.Lines {
			want += b.Lines[k] + b.Spaces[k]
		}
		if n, ok := impl.CountersOn(b); !ok || n != want {
			t.Errorf("CountersOn(%v) = %d, %v; want %d", b, n, ok, want)
		}
		if s, ok := impl.BoardText(b); !ok || s != wantedBoardText(b) {
			t.Errorf("BoardText(%v) = %q, %v; want %q", b, s, ok, wantedBoardText(b))
		}
	}
	b := impl.Board{Lines: []int{7, 4, 0, 30}, Spaces: []int{1, 0, 10, 9}}
	if s, ok := impl.BoardText(b); !ok || s != "9/30 10/0 0/4 1/7" {
		t.Error("BoardText", s, ok)
	}
	if n, ok := impl.CountersOn(b); !ok || n != 61 {
		t.Error("CountersOn", n, ok)
	}
	if n, ok := impl.CountersOn(fullBoard(6, 30, 30)); !ok || n != 360 {
		t.Error("CountersOn a full board", n, ok)
	}
	if s, ok := impl.BoardText(fullBoard(1, 0, 0)); !ok || s != "0/0" {
		t.Error("BoardText of an empty board", s, ok)
	}
}

func TestPromise5InvalidBoardsHaveZeroValues(t *testing.T) {
	for _, b := range invalidBoards() {
		if y, ok := impl.IsPlain(b); ok || y {
			t.Errorf("IsPlain of an invalid board = %v, %v", y, ok)
		}
		if n, ok := impl.BoardValue(b); ok || n != 0 {
			t.Errorf("BoardValue of an invalid board = %d, %v", n, ok)
		}
		if n, ok := impl.CountersOn(b); ok || n != 0 {
			t.Errorf("CountersOn an invalid board = %d, %v", n, ok)
		}
		if s, ok := impl.BoardText(b); ok || s != "" {
			t.Errorf("BoardText of an invalid board = %q, %v", s, ok)
		}
		p, n, ok := impl.PlainBoard(b)
		checkBoard(t, "PlainBoard of an invalid board", p, ok, impl.Board{}, false)
		if n != 0 {
			t.Errorf("PlainBoard of an invalid board has %d carries", n)
		}
		for _, k := range []int{math.MinInt, -1, 0, 1, 5, 6, len(b.Lines) - 1, len(b.Lines), math.MaxInt} {
			for _, line := range []bool{true, false} {
				c, ok := impl.CarryAt(b, line, k)
				checkBoard(t, "CarryAt of an invalid board", c, ok, impl.Board{}, false)
				c, ok = impl.BorrowAt(b, line, k)
				checkBoard(t, "BorrowAt of an invalid board", c, ok, impl.Board{}, false)
			}
		}
	}
}

func TestInvalidBoardsAreNeitherJoinedNorTakenAway(t *testing.T) {
	for _, bad := range invalidBoards() {
		others := []impl.Board{bad, fullBoard(impl.MaxLines, 30, 30)}
		if n := len(bad.Lines); n >= 1 && n <= impl.MaxLines {
			others = append(others, fullBoard(n, 0, 0), fullBoard(n, 15, 15), fullBoard(n, 30, 30))
		}
		for _, other := range others {
			for _, pair := range [][2]impl.Board{{bad, other}, {other, bad}} {
				c, ok := impl.JoinBoards(pair[0], pair[1])
				checkBoard(t, "JoinBoards with an invalid board", c, ok, impl.Board{}, false)
				c, ok = impl.TakeAway(pair[0], pair[1])
				checkBoard(t, "TakeAway with an invalid board", c, ok, impl.Board{}, false)
			}
		}
	}
}

// callBoardFunctions calls each function for boards and returns the boards among the results.
func callBoardFunctions(a, b impl.Board, line bool, k int) []impl.Board {
	impl.IsBoard(a)
	impl.IsPlain(a)
	impl.BoardValue(a)
	impl.CountersOn(a)
	impl.BoardText(a)
	set, _ := impl.SetBoard(k, k)
	carried, _ := impl.CarryAt(a, line, k)
	borrowed, _ := impl.BorrowAt(a, line, k)
	plain, _, _ := impl.PlainBoard(a)
	joined, _ := impl.JoinBoards(a, b)
	taken, _ := impl.TakeAway(a, b)
	return []impl.Board{set, carried, borrowed, plain, joined, taken}
}

func TestPromise29BoardFunctionsReturnForAllArguments(t *testing.T) {
	boards := append(invalidBoards(), randomBoards(30)...)
	boards = append(boards, fullBoard(1<<20, math.MinInt, math.MaxInt), fullBoard(2, math.MaxInt, math.MaxInt), fullBoard(6, math.MinInt, math.MinInt))
	for i, a := range boards {
		b := boards[(i*7+3)%len(boards)]
		for _, k := range placesToTry(min(len(a.Lines), 8)) {
			callBoardFunctions(a, b, true, k)
			callBoardFunctions(a, b, false, k)
		}
	}
	for _, lines := range []int{math.MinInt, -1, 0, 1, 6, 7, 1 << 40, math.MaxInt} {
		for _, n := range []int{math.MinInt, -1, 0, 1 << 40, math.MaxInt} {
			impl.SetBoard(lines, n)
		}
	}
}

// longerBoard returns a board as the front of longer memory, and that memory.
func longerBoard(b impl.Board) (impl.Board, [2][]int) {
	lines := append(slices.Clone(b.Lines), 77, -7)
	spaces := append(slices.Clone(b.Spaces), -8, 88)
	return impl.Board{Lines: lines[:len(b.Lines)], Spaces: spaces[:len(b.Spaces)]}, [2][]int{lines, spaces}
}

func TestPromise29BoardFunctionsModifyNothing(t *testing.T) {
	pairs := [][2]string{{"0/4 1/7", "0/1 0/1"}, {"0/0 2/9 2/8", "0/0 1/1 1/1"}, {"1/4", "0/0"}, {"0/3", "1/0"}, {"1/1 1/1 1/1 1/1 2/6 2/6", "0/0 0/0 0/0 0/0 0/0 0/9"}, {"30/30", "30/30"}}
	for _, pair := range pairs {
		for k := range 3 {
			for _, line := range []bool{true, false} {
				a, memoryA := longerBoard(parsedBoard(t, pair[0]))
				b, memoryB := longerBoard(parsedBoard(t, pair[1]))
				all := [][]int{memoryA[0], memoryA[1], memoryB[0], memoryB[1]}
				var before [][]int
				for _, list := range all {
					before = append(before, slices.Clone(list))
				}
				results := callBoardFunctions(a, b, line, k)
				var kept []impl.Board
				for _, r := range results {
					kept = append(kept, cloneBoard(r))
				}
				for i, list := range all {
					if !slices.Equal(list, before[i]) {
						t.Errorf("%v: the memory of an argument is now %v, not %v", pair, list, before[i])
					}
					for j := range list {
						list[j] = 99
					}
				}
				for i := range results {
					checkBoard(t, "result after its arguments were changed", results[i], true, kept[i], true)
				}
			}
		}
	}
}

// checkListsApart tests that no list has memory of another one, also behind its length, where
// append would write.
func checkListsApart(t *testing.T, lists [][]int) {
	t.Helper()
	for i, list := range lists {
		var before [][]int
		for _, other := range lists {
			before = append(before, slices.Clone(other))
		}
		for j := range list[:cap(list)] {
			list[:cap(list)][j] = -1 - i
		}
		for j, other := range lists {
			if j != i && !slices.Equal(other, before[j]) {
				t.Errorf("list %d shares memory with list %d", i, j)
			}
		}
	}
}

func TestPromise29BoardsShareNoMemory(t *testing.T) {
	b := parsedBoard(t, "0/0 2/5 2/5")
	for k := 1; k <= 2; k++ {
		for _, line := range []bool{true, false} {
			results := append(callBoardFunctions(b, b, line, k-1), callBoardFunctions(b, b, line, k-1)...)
			results = append(results, callBoardFunctions(b, b, line, k)...)
			var lists [][]int
			for _, r := range results {
				lists = append(lists, r.Lines, r.Spaces)
			}
			checkListsApart(t, lists)
		}
	}
	if !sameBoard(b, parsedBoard(t, "0/0 2/5 2/5")) {
		t.Error("the argument shares memory with a result:", b)
	}
}
