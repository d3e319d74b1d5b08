package tests

import (
	"math"
	"math/rand"
	"slices"
	"strconv"
	"strings"
	"testing"

	"loop.example/g01006/impl"
)

// movesOver returns all moves with some rods, both parts, and some numbers of beads.
func movesOver(rods, numbers []int) []impl.BeadMove {
	var all []impl.BeadMove
	for _, rod := range rods {
		for _, part := range []int{impl.PartUpper, impl.PartLower} {
			for _, by := range numbers {
				all = append(all, impl.BeadMove{Rod: rod, Part: part, By: by})
			}
		}
	}
	return all
}

// allowedNumbers are all numbers of beads that a move may have.
func allowedNumbers() []int { return []int{-5, -4, -3, -2, -1, 1, 2, 3, 4, 5} }

// allBeadMoves returns all moves for 1..MaxRods rods.
func allBeadMoves(rods int) []impl.BeadMove {
	var list []int
	for rod := range rods {
		list = append(list, rod)
	}
	return movesOver(list, allowedNumbers())
}

// invalidBeadMoves are moves that differ from valid ones in just one place, and worse ones.
func invalidBeadMoves() []impl.BeadMove {
	all := []impl.BeadMove{{}, {Rod: 8, Part: 2, By: 6}, {Rod: -1, Part: -1, By: -6}, {Rod: math.MinInt, Part: math.MaxInt, By: math.MinInt}}
	for _, n := range []int{math.MinInt, math.MinInt + 1, -1 << 32, -1, impl.MaxRods, impl.MaxRods + 1, 10, 1 << 32, math.MaxInt} {
		all = append(all, impl.BeadMove{Rod: n, Part: impl.PartLower, By: 1})
	}
	for _, n := range []int{math.MinInt, -1 << 32, -2, -1, 2, 3, 'l', 'u', 1 << 32, math.MaxInt} {
		all = append(all, impl.BeadMove{Rod: 0, Part: n, By: 1})
	}
	for _, n := range []int{math.MinInt, math.MinInt + 1, -1<<32 + 1, -6, 0, 6, 7, 10, 1<<32 + 1, math.MaxInt} {
		all = append(all, impl.BeadMove{Rod: 0, Part: impl.PartLower, By: n}, impl.BeadMove{Rod: 7, Part: impl.PartUpper, By: n})
	}
	return all
}

// invalidMoves are lists that are too long, or that have an invalid move among valid ones.
func invalidMoves() [][]impl.BeadMove {
	good := impl.BeadMove{Rod: 0, Part: impl.PartLower, By: 1}
	back := impl.BeadMove{Rod: 0, Part: impl.PartLower, By: -1}
	lists := [][]impl.BeadMove{slices.Repeat([]impl.BeadMove{good}, impl.MaxMoves+1), slices.Repeat([]impl.BeadMove{good, back}, impl.MaxMoves/2+1), slices.Repeat([]impl.BeadMove{good, back}, 1<<16)}
	for _, bad := range invalidBeadMoves() {
		lists = append(lists, []impl.BeadMove{bad}, []impl.BeadMove{bad, good, back}, []impl.BeadMove{good, bad, back}, []impl.BeadMove{good, back, bad})
	}
	last := slices.Repeat([]impl.BeadMove{good, back}, impl.MaxMoves/2)
	last[impl.MaxMoves-1] = impl.BeadMove{}
	return append(lists, last)
}

// parsedMoves reads moves from a text without the program's help.
func parsedMoves(t *testing.T, text string) []impl.BeadMove {
	t.Helper()
	moves := []impl.BeadMove{}
	for _, word := range strings.Fields(text) {
		by, err := strconv.Atoi(word[2:])
		if err != nil {
			t.Fatal("no move:", word)
		}
		moves = append(moves, impl.BeadMove{Rod: int(word[0] - '0'), Part: map[byte]int{'u': impl.PartUpper, 'l': impl.PartLower}[word[1]], By: by})
	}
	return moves
}

// parsedFrame reads a frame, which must be one.
func parsedFrame(t *testing.T, text string) impl.Frame {
	t.Helper()
	f, ok := impl.ParseFrame(text)
	if !ok {
		t.Fatal("no frame:", text)
	}
	return f
}

// wantedText writes moves by looking up each word.
func wantedText(moves []impl.BeadMove) string {
	numbers := map[int]string{-5: "-5", -4: "-4", -3: "-3", -2: "-2", -1: "-1", 1: "+1", 2: "+2", 3: "+3", 4: "+4", 5: "+5"}
	words := []string{}
	for _, m := range moves {
		words = append(words, strconv.Itoa(m.Rod)+map[int]string{impl.PartUpper: "u", impl.PartLower: "l"}[m.Part]+numbers[m.By])
	}
	return strings.Join(words, " ")
}

// wantedPlayed moves the beads of a valid frame by valid moves, as far as that is possible.
func wantedPlayed(f impl.Frame, moves []impl.BeadMove) (impl.Frame, bool) {
	f = cloneFrame(f)
	for _, m := range moves {
		if m.Rod >= len(f.Rods) {
			return impl.Frame{}, false
		}
		most := f.Lower
		if m.Part == impl.PartUpper {
			most = f.Upper
		}
		n := f.Rods[m.Rod][m.Part] + m.By
		if n < 0 || n > most {
			return impl.Frame{}, false
		}
		f.Rods[m.Rod][m.Part] = n
	}
	return f, true
}

// wantedMerged puts the first two neighbors for the same rod and part together, again and again.
func wantedMerged(moves []impl.BeadMove) ([]impl.BeadMove, bool) {
	moves = slices.Clone(moves)
	for i := 1; i < len(moves); {
		a, b := moves[i-1], moves[i]
		sum := a.By + b.By
		switch {
		case a.Rod != b.Rod || a.Part != b.Part:
			i++
			continue
		case sum < -5 || sum > 5:
			return nil, false
		case sum == 0:
			moves = slices.Delete(moves, i-1, i+1)
		default:
			moves[i-1].By = sum
			moves = slices.Delete(moves, i, i+1)
		}
		i = 1
	}
	return moves, true
}

// checkMoves tests a result against the moves that are wanted, or against none if there are none.
func checkMoves(t *testing.T, what string, got []impl.BeadMove, ok bool, want []impl.BeadMove, there bool) {
	t.Helper()
	if ok != there || there && !slices.Equal(got, want) || !there && len(got) != 0 {
		t.Errorf("%s: %v, %v; want %v, %v", what, got, ok, want, there)
	}
}

// checkUndone tests that moves are played if they are possible, and that the frame is then as it
// was when they are undone.
func checkUndone(t *testing.T, f impl.Frame, moves []impl.BeadMove) {
	t.Helper()
	frame, list := cloneFrame(f), slices.Clone(moves)
	want, there := wantedPlayed(f, moves)
	played, ok := impl.PlayMoves(f, moves)
	checkFrame(t, "PlayMoves "+wantedText(moves), played, ok, want, there)
	undone, fine := impl.UndoMoves(moves)
	if !fine || len(undone) != len(moves) {
		t.Fatalf("UndoMoves(%v) = %v, %v", moves, undone, fine)
	}
	if ok {
		back, fine := impl.PlayMoves(played, undone)
		checkFrame(t, "played and undone "+wantedText(moves), back, fine, frame, true)
		checkPlayed(t, f, played, moves)
	}
	again, fine := impl.UndoMoves(undone)
	checkMoves(t, "undone twice", again, fine, list, true)
	if !sameFrame(f, frame) || !slices.Equal(moves, list) {
		t.Errorf("%v and %v were changed to %v and %v", frame, list, f, moves)
	}
}

// checkPlayed tests what the other functions tell of moves that made one frame of another.
func checkPlayed(t *testing.T, f, played impl.Frame, moves []impl.BeadMove) {
	t.Helper()
	if n, ok := impl.ChangeOf(moves, len(f.Rods)); !ok || n != wantedNumber(played)-wantedNumber(f) {
		t.Errorf("ChangeOf(%v, %d) = %d, %v; want %d", moves, len(f.Rods), n, ok, wantedNumber(played)-wantedNumber(f))
	}
	// Beads that are moved on their ways can be moved at once, too.
	merged, ok := impl.MergedMoves(moves)
	want, _ := wantedMerged(moves)
	checkMoves(t, "MergedMoves "+wantedText(moves), merged, ok, want, true)
	end, ok := impl.PlayMoves(f, merged)
	checkFrame(t, "merged moves", end, ok, played, true)
	between, ok := impl.MovesBetween(f, played)
	end, fine := impl.PlayMoves(f, between)
	checkFrame(t, "the moves between", end, ok && fine, played, true)
	few, _ := impl.BeadsOf(between)
	all, _ := impl.BeadsOf(moves)
	if few > all || (all-few)%2 != 0 {
		t.Errorf("%v between, %v played: %d and %d beads", between, moves, few, all)
	}
}

func TestPromise4SingleMovesAreUndone(t *testing.T) {
	moves := allBeadMoves(3)
	for _, f := range shortFrames(2) {
		for _, m := range moves {
			checkUndone(t, f, []impl.BeadMove{m})
		}
	}
	for _, f := range longFrames() {
		for _, m := range allBeadMoves(impl.MaxRods) {
			want, there := wantedPlayed(f, []impl.BeadMove{m})
			got, ok := impl.MoveBeads(f, m)
			checkFrame(t, "MoveBeads", got, ok, want, there)
			if !ok {
				continue
			}
			m.By = -m.By
			back, ok := impl.MoveBeads(got, m)
			checkFrame(t, "MoveBeads back", back, ok, f, true)
		}
	}
}

func TestPromise4PairsOfMovesAreUndone(t *testing.T) {
	moves := allBeadMoves(2)
	for _, f := range shortFrames(1) {
		g := cloneFrame(f)
		g.Rods = append(g.Rods, g.Rods[0])
		for _, a := range moves {
			for _, b := range moves {
				checkUndone(t, f, []impl.BeadMove{a, b})
				checkUndone(t, g, []impl.BeadMove{a, b})
			}
		}
	}
}

// possibleMoves returns n moves that are possible one after the other, by a fixed choice.
func possibleMoves(f impl.Frame, n int, choice *rand.Rand) []impl.BeadMove {
	moves := []impl.BeadMove{}
	for len(moves) < n {
		m := impl.BeadMove{Rod: choice.Intn(len(f.Rods)), Part: choice.Intn(2), By: choice.Intn(11) - 5}
		if g, ok := wantedPlayed(f, []impl.BeadMove{m}); ok && m.By != 0 {
			f = g
			moves = append(moves, m)
		}
	}
	return moves
}

func TestPromise4ManyMovesAreUndone(t *testing.T) {
	choice := rand.New(rand.NewSource(4))
	for _, f := range append(shortFrames(1), longFrames()...) {
		for _, n := range []int{0, 3, 10, impl.MaxMoves - 1, impl.MaxMoves} {
			moves := possibleMoves(f, n, choice)
			checkUndone(t, f, moves)
			if n == impl.MaxMoves {
				// One more is too much, though it would be possible.
				more := append(slices.Clone(moves), possibleMoves(f, 1, choice)...)
				g, ok := impl.PlayMoves(f, more)
				checkFrame(t, "too many moves", g, ok, impl.Frame{}, false)
				undone, ok := impl.UndoMoves(more)
				checkMoves(t, "too many moves", undone, ok, nil, false)
			}
		}
	}
}

func TestPromise4NoMovesLeaveTheFrame(t *testing.T) {
	for _, f := range append(shortFrames(2), longFrames()...) {
		for _, none := range [][]impl.BeadMove{nil, {}} {
			checkUndone(t, f, none)
		}
		between, ok := impl.MovesBetween(f, cloneFrame(f))
		checkMoves(t, "MovesBetween a frame and itself", between, ok, nil, true)
	}
	if undone, ok := impl.UndoMoves(nil); !ok || len(undone) != 0 {
		t.Error("no moves undone:", undone, ok)
	}
}

func TestPromise4KnownMovesPlayed(t *testing.T) {
	for _, c := range []struct{ before, moves, after string }{
		{"1/4 00 00", "0u+1 1l+3", "1/4 10 03"},
		{"1/4 10 03", "1l-3 0u-1", "1/4 00 00"},
		{"1/4 00", "0l+4", "1/4 04"},
		{"1/4 00", "0l+5", ""},
		{"1/5 00", "0l+5", "1/5 05"},
		{"1/5 05", "0l-5", "1/5 00"},
		{"1/5 04", "0l-5", ""},
		{"1/5 01", "0l+5", ""},
		{"1/4 00", "0l-1", ""},
		{"1/4 04", "0l+1", ""},
		{"1/4 04", "0l-4", "1/4 00"},
		{"1/4 00", "0u+1", "1/4 10"},
		{"1/4 00", "0u+2", ""},
		{"1/4 10", "0u+1", ""},
		{"2/4 10", "0u+1", "2/4 20"},
		{"2/4 00", "0u+2", "2/4 20"},
		{"2/4 00", "0u+3", ""},
		{"2/5 00", "0u+5", ""},
		{"2/5 20", "0u-2", "2/5 00"},
		{"2/5 20", "0u-3", ""},
		{"2/5 25", "0u-5", ""},
		{"2/5 25", "0u-2 0l-5", "2/5 00"},
		// Rods that do not occur, also behind and before possible moves.
		{"1/4 00", "1l+1", ""},
		{"1/4 00", "7l+1", ""},
		{"1/4 00 00", "1l+1 2l+1", ""},
		{"1/4 00 00", "2l+1 2l-1", ""},
		{"1/4 00 00 00 00 00 00 00 00", "7l+1 0u+1", "1/4 10 00 00 00 00 00 00 01"},
		// A move that is possible only behind another one, on the same rod and part.
		{"1/4 04", "0l-1 0l+1", "1/4 04"},
		{"1/4 04", "0l+1 0l-1", ""},
		{"1/4 03", "0l+1 0l-4", "1/4 00"},
		{"1/4 03", "0l-4 0l+1", ""},
		{"2/5 10", "0u+1 0u-2", "2/5 00"},
		{"2/5 10", "0u-2 0u+1", ""},
		// The last one is not possible, so none is made.
		{"1/4 00 00", "0u+1 1l+3 1l+2", ""},
		{"1/4 00 00", "0u+1 0u-1 0u-1", ""},
		{"1/4 13 02", "", "1/4 13 02"},
	} {
		f := parsedFrame(t, c.before)
		moves := parsedMoves(t, c.moves)
		checkUndone(t, f, moves)
		g, ok := impl.PlayMoves(f, moves)
		if text, _ := impl.FrameText(g); ok != (c.after != "") || text != c.after {
			t.Errorf("%s played on %s: %s, %v; want %s", c.moves, c.before, text, ok, c.after)
		}
		if len(moves) == 1 {
			h, fine := impl.MoveBeads(f, moves[0])
			checkFrame(t, "MoveBeads "+c.moves, h, fine, g, ok)
		}
	}
}

func TestPromise4KnownMovesUndone(t *testing.T) {
	for moves, want := range map[string]string{
		"":                    "",
		"0u+1 1l+3":           "1l-3 0u-1",
		"7l-5":                "7l+5",
		"0l+5 0l-5":           "0l+5 0l-5",
		"0u+1 1u+2 2u+3":      "2u-3 1u-2 0u-1",
		"0l+1 0l+1 0l+1 1u-1": "1u+1 0l-1 0l-1 0l-1",
	} {
		got, ok := impl.UndoMoves(parsedMoves(t, moves))
		checkMoves(t, "UndoMoves "+moves, got, ok, parsedMoves(t, want), true)
	}
}

func TestMovesOfBeadsAreValid(t *testing.T) {
	for _, rod := range []int{math.MinInt, -1, 0, 1, 6, 7, 8, 9, 1 << 32, math.MaxInt} {
		for _, part := range []int{math.MinInt, -1, 0, 1, 2, 1 << 32, math.MaxInt} {
			for _, by := range []int{math.MinInt, -7, -6, -5, -4, -1, 0, 1, 4, 5, 6, 7, 1 << 32, math.MaxInt} {
				want := slices.Contains([]int{0, 1, 6, 7}, rod) && (part == 0 || part == 1) && slices.Contains([]int{-5, -4, -1, 1, 4, 5}, by)
				if got := impl.IsBeadMove(impl.BeadMove{Rod: rod, Part: part, By: by}); got != want {
					t.Errorf("IsBeadMove of %d, %d and %d is %v", rod, part, by, got)
				}
			}
		}
	}
	for _, m := range allBeadMoves(impl.MaxRods) {
		if !impl.IsBeadMove(m) {
			t.Errorf("IsBeadMove(%v) is false", m)
		}
	}
	for _, m := range invalidBeadMoves() {
		if impl.IsBeadMove(m) {
			t.Errorf("IsBeadMove(%v) is true", m)
		}
	}
	if impl.MaxMoves != 60 || impl.PartUpper != 0 || impl.PartLower != 1 {
		t.Error("the constants are", impl.MaxMoves, impl.PartUpper, impl.PartLower)
	}
}

// wantedBetween tells of all rods and parts that differ, by looking at each of MaxRods.
func wantedBetween(a, b impl.Frame) []impl.BeadMove {
	var moves []impl.BeadMove
	for i := range 2 * len(a.Rods) {
		x, y := a.Rods[i/2][i%2], b.Rods[i/2][i%2]
		if x != y {
			moves = append(moves, impl.BeadMove{Rod: i / 2, Part: i % 2, By: y - x})
		}
	}
	return moves
}

// checkBetween tests that the moves between two frames are the wanted ones and can be played.
func checkBetween(t *testing.T, a, b impl.Frame) {
	t.Helper()
	before, after := cloneFrame(a), cloneFrame(b)
	moves, ok := impl.MovesBetween(a, b)
	checkMoves(t, "MovesBetween", moves, ok, wantedBetween(a, b), true)
	played, ok := impl.PlayMoves(a, moves)
	checkFrame(t, "the moves between played", played, ok, b, true)
	if !sameFrame(a, before) || !sameFrame(b, after) {
		t.Errorf("%v and %v were changed to %v and %v", before, after, a, b)
	}
}

func TestPromise4MovesBetweenFrames(t *testing.T) {
	for _, beads := range beadKinds {
		for rods := 1; rods <= 2; rods++ {
			frames := framesWith(beads, rods)
			for _, a := range frames {
				for _, b := range frames {
					checkBetween(t, a, b)
				}
			}
		}
	}
	for _, beads := range beadKinds {
		empty := repeatedFrame(beads[0], beads[1], [2]int{}, impl.MaxRods)
		full := repeatedFrame(beads[0], beads[1], beads, impl.MaxRods)
		checkBetween(t, empty, full)
		checkBetween(t, full, empty)
		if moves, _ := impl.MovesBetween(empty, full); len(moves) != 16 {
			t.Errorf("%d moves between an empty and a full frame", len(moves))
		}
	}
}

func TestKnownMovesBetweenFrames(t *testing.T) {
	for _, c := range []struct {
		a, b, want string
		ok         bool
	}{
		{"1/4 00 00", "1/4 10 03", "0u+1 1l+3", true},
		{"1/4 10 03", "1/4 00 00", "0u-1 1l-3", true},
		{"2/5 05 20 11", "2/5 20 05 11", "0u+2 0l-5 1u-2 1l+5", true},
		{"1/4 13", "1/4 13", "", true},
		// The same beads are down and up, but there are others, too.
		{"1/4 03", "1/5 03", "", false},
		{"1/5 03", "1/4 03", "", false},
		{"1/4 03", "2/4 03", "", false},
		{"2/4 03", "1/4 03", "", false},
		{"1/5 03", "2/4 03", "", false},
		// Another number of rods, also if the others are the same.
		{"1/4 03", "1/4 03 00", "", false},
		{"1/4 03 00", "1/4 03", "", false},
		{"1/4 03", "1/4 00 03", "", false},
		{"1/4 00 00 00 00 00 00 00 00", "1/4 00 00 00 00 00 00 00", "", false},
	} {
		moves, ok := impl.MovesBetween(parsedFrame(t, c.a), parsedFrame(t, c.b))
		checkMoves(t, "MovesBetween "+c.a+" and "+c.b, moves, ok, parsedMoves(t, c.want), c.ok)
	}
}

func TestPromise4MovesAndInvalidFramesHaveZeroValues(t *testing.T) {
	for _, f := range invalidFrames() {
		for _, moves := range [][]impl.BeadMove{nil, {}, {{Rod: 0, Part: impl.PartLower, By: 1}}, {{Rod: 0, Part: impl.PartUpper, By: -1}}, {{}}} {
			g, ok := impl.PlayMoves(f, moves)
			checkFrame(t, "PlayMoves on an invalid frame", g, ok, impl.Frame{}, false)
			if len(moves) > 0 {
				g, ok = impl.MoveBeads(f, moves[0])
				checkFrame(t, "MoveBeads on an invalid frame", g, ok, impl.Frame{}, false)
			}
		}
		good := repeatedFrame(1, 4, [2]int{}, len(f.Rods))
		for _, other := range []impl.Frame{f, good, repeatedFrame(2, 5, [2]int{}, 1)} {
			moves, ok := impl.MovesBetween(f, other)
			checkMoves(t, "MovesBetween an invalid frame and another one", moves, ok, nil, false)
			moves, ok = impl.MovesBetween(other, f)
			checkMoves(t, "MovesBetween a frame and an invalid one", moves, ok, nil, false)
		}
	}
}

func TestPromise4InvalidMovesHaveZeroValues(t *testing.T) {
	f := repeatedFrame(2, 5, [2]int{1, 2}, impl.MaxRods)
	for _, m := range invalidBeadMoves() {
		g, ok := impl.MoveBeads(f, m)
		checkFrame(t, "MoveBeads", g, ok, impl.Frame{}, false)
	}
	for _, list := range invalidMoves() {
		g, ok := impl.PlayMoves(f, list)
		checkFrame(t, "PlayMoves", g, ok, impl.Frame{}, false)
		undone, ok := impl.UndoMoves(list)
		checkMoves(t, "UndoMoves", undone, ok, nil, false)
		merged, ok := impl.MergedMoves(list)
		checkMoves(t, "MergedMoves", merged, ok, nil, false)
		if n, ok := impl.BeadsOf(list); ok || n != 0 {
			t.Errorf("BeadsOf %d invalid moves is %d, %v", len(list), n, ok)
		}
		if n, ok := impl.ChangeOf(list, impl.MaxRods); ok || n != 0 {
			t.Errorf("ChangeOf %d invalid moves is %d, %v", len(list), n, ok)
		}
		if s, ok := impl.MovesText(list); ok || s != "" {
			t.Errorf("MovesText of %d invalid moves is %q, %v", len(list), s[:min(len(s), 40)], ok)
		}
	}
}

func TestBeadsOfMoves(t *testing.T) {
	for text, want := range map[string]int{
		"":                         0,
		"0l+1":                     1,
		"0l-1":                     1,
		"7u-5":                     5,
		"0u+1 1l+3":                4,
		"0u+1 1l-3":                4,
		"0l+5 0l-5":                10,
		"1l+2 1l+2 0u+1 0u-1":      6,
		"0l-1 1l-2 2l-3 3l-4 4l-5": 15,
	} {
		if n, ok := impl.BeadsOf(parsedMoves(t, text)); !ok || n != want {
			t.Errorf("BeadsOf %s is %d, %v; want %d", text, n, ok, want)
		}
	}
	for _, m := range allBeadMoves(impl.MaxRods) {
		want := int(math.Abs(float64(m.By)))
		for _, n := range []int{1, 2, impl.MaxMoves} {
			if got, ok := impl.BeadsOf(slices.Repeat([]impl.BeadMove{m}, n)); !ok || got != n*want {
				t.Errorf("BeadsOf %d times %v is %d, %v", n, m, got, ok)
			}
		}
	}
}

func TestChangesOfSingleMoves(t *testing.T) {
	for rods := 1; rods <= impl.MaxRods; rods++ {
		for _, m := range allBeadMoves(impl.MaxRods) {
			want := 0
			if m.Rod < rods {
				want = m.By * powerOf10(rods-1-m.Rod) * []int{5, 1}[m.Part]
			}
			for _, n := range []int{1, impl.MaxMoves} {
				got, ok := impl.ChangeOf(slices.Repeat([]impl.BeadMove{m}, n), rods)
				if ok != (m.Rod < rods) || got != n*want {
					t.Errorf("ChangeOf %d times %v with %d rods is %d, %v; want %d", n, m, rods, got, ok, n*want)
				}
			}
		}
	}
}

func TestKnownChangesOfMoves(t *testing.T) {
	for _, c := range []struct {
		moves string
		rods  int
		want  int
		ok    bool
	}{
		{"0u+1 1l+3", 2, 53, true},
		{"0u-1 1l+3", 2, -47, true},
		{"0u+1 1l+3", 3, 530, true},
		{"0u+1 1l+3", 1, 0, false},
		{"0u+1", 1, 5, true},
		{"0l+5 0u-1", 1, 0, true},
		{"0l+1 1u-2", 2, 0, true},
		{"0l+1 1l-1", 2, 9, true},
		{"7l+1", 8, 1, true},
		{"7l+1", 7, 0, false},
		{"0l+1 7l+1 7l-1", 7, 0, false},
		{"7l+1 7l-1 0l+1", 7, 0, false},
		{"0l+1 0l+1 0l+1 0l+1 0l+1 0l+1", 1, 6, true},
		// No frame has so many beads, but the change is told.
		{"0u+5 0u+5 0l-5", 8, 450000000, true},
	} {
		n, ok := impl.ChangeOf(parsedMoves(t, c.moves), c.rods)
		if ok != c.ok || n != c.want {
			t.Errorf("ChangeOf %s with %d rods is %d, %v; want %d, %v", c.moves, c.rods, n, ok, c.want, c.ok)
		}
	}
}

func TestChangesWithANumberOfRods(t *testing.T) {
	for _, rods := range []int{math.MinInt, -1 << 32, -1, 0, 1, 2, impl.MaxRods, impl.MaxRods + 1, 1 << 32, math.MaxInt} {
		there := rods >= 1 && rods <= 8
		if n, ok := impl.ChangeOf(nil, rods); ok != there || n != 0 {
			t.Errorf("ChangeOf no moves with %d rods is %d, %v", rods, n, ok)
		}
		n, ok := impl.ChangeOf([]impl.BeadMove{{Rod: 0, Part: impl.PartLower, By: -2}}, rods)
		if ok != there || there && n != -2*powerOf10(rods-1) || !there && n != 0 {
			t.Errorf("ChangeOf a move with %d rods is %d, %v", rods, n, ok)
		}
	}
}

func TestPromise4KnownMergedMoves(t *testing.T) {
	for _, c := range []struct {
		moves, want string
		ok          bool
	}{
		{"", "", true},
		{"0l+1", "0l+1", true},
		{"1l+2 1l+2 0u+1 0u-1", "1l+4", true},
		{"0l+1 0l+1 0l+1 0l+1 0l+1", "0l+5", true},
		{"0l-1 0l-1 0l-1 0l-1 0l-1", "0l-5", true},
		// Moves that are not right behind one another, or not for the same rod and part.
		{"0l+1 1l+1 0l+1", "0l+1 1l+1 0l+1", true},
		{"0l+1 0u+1 0l+1", "0l+1 0u+1 0l+1", true},
		{"0l+1 0u-1", "0l+1 0u-1", true},
		{"0l+1 1l-1", "0l+1 1l-1", true},
		{"0l+1 1l+1 1l+1 0l-1", "0l+1 1l+2 0l-1", true},
		// Moves that cancel each other, one after the other and in a nest.
		{"0u+1 0u-1", "", true},
		{"0l-5 0l+5", "", true},
		{"0l+1 0l-1 0l+1", "0l+1", true},
		{"0l+1 0l-1 1l+1 1l-1", "", true},
		{"0l+3 0l-1 0l-2", "", true},
		{"0l+1 1l+1 1l-1 0l-1", "", true},
		{"0l+1 1u+1 2l+1 2l-1 1u-1 0l-1", "", true},
		{"0l+1 0u+1 0l+1 0l-1 0u-1 0l-1", "", true},
		{"0l+1 1l+1 1l-1 2l+1 2l-1 0l-1", "", true},
		{"0l+1 1l+1 1l-1 0l+1", "0l+2", true},
		{"0l+1 1l+1 1l-1 0l-3 1l+1", "0l-2 1l+1", true},
		{"1u+2 0l+1 1l+1 1l-1 0l-1 1u-1", "1u+1", true},
		{"0l+1 1l+2 1l-1 0l-1", "0l+1 1l+1 0l-1", true},
		{"1l+1 0l+1 0l-1 2l+1", "1l+1 2l+1", true},
		// Sums just inside and just outside, also behind a nest, and on the way to one inside.
		{"0l+2 0l+3", "0l+5", true},
		{"0l+3 0l+3", "", false},
		{"0l-2 0l-3", "0l-5", true},
		{"0l-3 0l-3", "", false},
		{"0l+5 0l+5", "", false},
		{"0l-5 0l-5", "", false},
		{"0u+5 0u+1", "", false},
		{"0l+5 0l+1 0l-1", "", false},
		{"0l+5 0l-1 0l+1", "0l+5", true},
		{"0l-5 0l-1 0l+1", "", false},
		{"0l-5 0l+1 0l-1", "0l-5", true},
		{"0l+3 1u+1 1u-1 0l+2", "0l+5", true},
		{"0l+3 1u+1 1u-1 0l+3", "", false},
		{"0l+3 1u+1 0l+3", "0l+3 1u+1 0l+3", true},
		{"1l+1 0l+3 0l+3 2l+1", "", false},
		{"0l+3 0l+3 0l-3 0l-3", "", false},
		{"0l+3 0l-3 0l+3 0l-3", "", true},
		{"2l+1 2l-1 0l+3 0l+3", "", false},
	} {
		moves := parsedMoves(t, c.moves)
		got, ok := impl.MergedMoves(moves)
		checkMoves(t, "MergedMoves "+c.moves, got, ok, parsedMoves(t, c.want), c.ok)
	}
}

// checkMergedBehind tests all lists that begin with some moves and go on with at most n of others.
func checkMergedBehind(t *testing.T, moves, others []impl.BeadMove, n int) {
	t.Helper()
	want, there := wantedMerged(moves)
	got, ok := impl.MergedMoves(moves)
	checkMoves(t, "MergedMoves "+wantedText(moves), got, ok, want, there)
	for _, m := range others[:min(n, 1)*len(others)] {
		checkMergedBehind(t, append(slices.Clip(moves), m), others, n-1)
	}
}

func TestPromise4AllShortListsOfMovesAreMerged(t *testing.T) {
	checkMergedBehind(t, nil, movesOver([]int{0, 7}, []int{-1, 1}), 4)
	checkMergedBehind(t, nil, parsedMoves(t, "0l-3 0l-1 0l+1 0l+3 0u-5 0u+2 7l-5 7l+2"), 5)
}

func TestPromise4MaxMovesAreMerged(t *testing.T) {
	up := impl.BeadMove{Rod: 3, Part: impl.PartLower, By: 5}
	down := impl.BeadMove{Rod: 3, Part: impl.PartLower, By: -5}
	pairs := slices.Repeat([]impl.BeadMove{up, down}, impl.MaxMoves/2)
	got, ok := impl.MergedMoves(pairs)
	checkMoves(t, "MaxMoves in pairs", got, ok, nil, true)
	var nest []impl.BeadMove
	for i := range impl.MaxMoves / 2 {
		nest = append(nest, impl.BeadMove{Rod: i % impl.MaxRods, Part: i % 2, By: i%5 + 1})
	}
	undone, _ := impl.UndoMoves(nest)
	got, ok = impl.MergedMoves(append(nest, undone...))
	checkMoves(t, "MaxMoves in a nest", got, ok, nil, true)
	var other []impl.BeadMove
	for i := range impl.MaxMoves {
		other = append(other, impl.BeadMove{Rod: i / 2 % impl.MaxRods, Part: i % 2, By: 5})
	}
	got, ok = impl.MergedMoves(other)
	checkMoves(t, "MaxMoves for different parts", got, ok, other, true)
	got, ok = impl.MergedMoves(append(other, down))
	checkMoves(t, "MaxMoves and one more", got, ok, nil, false)
	got, ok = impl.MergedMoves(append(pairs, up))
	checkMoves(t, "MaxMoves in pairs and one more", got, ok, nil, false)
}

// checkTextOfMoves tests that moves are written as wanted and read again.
func checkTextOfMoves(t *testing.T, moves []impl.BeadMove) {
	t.Helper()
	want := wantedText(moves)
	if s, ok := impl.MovesText(moves); !ok || s != want {
		t.Errorf("MovesText(%v) = %q, %v; want %q", moves, s, ok, want)
	}
	back, ok := impl.ParseMoves(want)
	checkMoves(t, "ParseMoves "+want, back, ok, moves, true)
}

func TestTextsOfMoves(t *testing.T) {
	all := allBeadMoves(impl.MaxRods)
	for _, n := range []int{0, 1, 2, 3, 59, impl.MaxMoves} {
		for start := 0; start+n <= len(all); start++ {
			checkTextOfMoves(t, all[start:start+n])
		}
	}
	for _, a := range all {
		for _, b := range all {
			checkTextOfMoves(t, []impl.BeadMove{a, b})
		}
	}
	if s, ok := impl.MovesText([]impl.BeadMove{{Rod: 0, Part: impl.PartUpper, By: 1}, {Rod: 1, Part: impl.PartLower, By: -3}}); !ok || s != "0u+1 1l-3" {
		t.Error("MovesText of the document's example:", s, ok)
	}
	if s, ok := impl.MovesText(nil); !ok || s != "" {
		t.Errorf("MovesText of no moves: %q, %v", s, ok)
	}
	if moves, ok := impl.ParseMoves(""); !ok || len(moves) != 0 {
		t.Error("ParseMoves of the empty text:", moves, ok)
	}
}

func TestOnlyTextsOfMovesAreParsed(t *testing.T) {
	texts := map[string][]impl.BeadMove{"": {}}
	for _, m := range allBeadMoves(impl.MaxRods) {
		texts[wantedText([]impl.BeadMove{m})] = []impl.BeadMove{m}
	}
	for _, s := range textsOver("0158/ul+- ", 5) {
		moves, ok := impl.ParseMoves(s)
		want, there := texts[s]
		checkMoves(t, "ParseMoves "+s, moves, ok, want, there)
	}
}

func TestTextsWithOneChangedByteAreMovesOrNone(t *testing.T) {
	for _, text := range []string{"0u+1", "7l-5", "0u+1 1l-3", "0u-1 0l+5 7u+2"} {
		for i := range len(text) {
			for c := range 256 {
				changed := text[:i] + string([]byte{byte(c)}) + text[i+1:]
				allowed := []string{"01234567", "ul", "+-", "12345", " "}[i%5]
				moves, ok := impl.ParseMoves(changed)
				if ok != (strings.IndexByte(allowed, byte(c)) >= 0) || ok && wantedText(moves) != changed || !ok && len(moves) != 0 {
					t.Errorf("ParseMoves(%q) = %v, %v", changed, moves, ok)
				}
			}
		}
	}
}

func TestTextsThatLookLikeMovesAreNone(t *testing.T) {
	full := strings.Repeat("0u+1 0u-1 ", impl.MaxMoves/2)
	texts := []string{" ", "  ", "0", "0u", "0u+", "0u1", "0u+0", "0u-0", "0u+6", "0u-6", "0u+9", "8u+1", "9l+1", "0x+1", "0U+1", "0L+1", "u0+1", "0+1u", "0u*1", "0u 1", "-1u+1", "0u+10", "00u+1", "0u+01", "0u++1", "0u+-1", "0u--1", "0u-/", "0u+/", "/u+1", "0u+:", "au+1",
		" 0u+1", "0u+1 ", "0u+1\n", "\t0u+1", "0u+1  1l+1", "0u+1  1l-3", "0u+1,1l+1", "0u+1\t1l+1", "0u+1\x001l+1", "0u+11l+1", "0u+1 1l", "0u+1 1l+", "0u+1 1l+6", "8u+1 1l+1", "0u+1 x", "0u+1 1l+1 ", "0u+1 1l+1 0", "0u\u22121", "\uff10u+1", "0u+\u0661", "\xb0u+1", "0u+1\x00",
		full, full + "1l+1", full + "1", strings.Repeat(full, 100), strings.Repeat(" ", 4), strings.Repeat(" ", 5*impl.MaxMoves-1), strings.Repeat("0", 1<<20)}
	for _, s := range texts {
		moves, ok := impl.ParseMoves(s)
		checkMoves(t, "ParseMoves "+s[:min(len(s), 40)], moves, ok, nil, false)
	}
	if moves, ok := impl.ParseMoves(full[:len(full)-1]); !ok || len(moves) != impl.MaxMoves {
		t.Error("ParseMoves of MaxMoves moves:", moves, ok)
	}
}

// callMoveFunctions calls each function and returns the frames and the moves among the results.
func callMoveFunctions(f, g impl.Frame, moves []impl.BeadMove, rods int) ([]impl.Frame, [][]impl.BeadMove) {
	var frames []impl.Frame
	for _, m := range moves[:min(len(moves), 3)] {
		impl.IsBeadMove(m)
		moved, _ := impl.MoveBeads(f, m)
		frames = append(frames, moved)
	}
	played, _ := impl.PlayMoves(f, moves)
	same, _ := impl.PlayMoves(f, nil)
	undone, _ := impl.UndoMoves(moves)
	between, _ := impl.MovesBetween(f, g)
	merged, _ := impl.MergedMoves(moves)
	impl.BeadsOf(moves)
	impl.ChangeOf(moves, rods)
	impl.MovesText(moves)
	return append(frames, played, same), [][]impl.BeadMove{undone, between, merged}
}

func TestPromise29MoveFunctionsReturnForAllArguments(t *testing.T) {
	frames := append(invalidFrames()[:20], shortFrames(1)[:5]...)
	frames = append(frames, longFrames()[:5]...)
	frames = append(frames, repeatedFrame(math.MaxInt, math.MaxInt, [2]int{math.MaxInt, math.MinInt}, 1<<16))
	lists := append(invalidMoves(), nil, []impl.BeadMove{{Rod: 7, Part: impl.PartUpper, By: 5}})
	for i, f := range frames {
		for j, list := range lists {
			callMoveFunctions(f, frames[(i+j)%len(frames)], list, []int{math.MinInt, -1, 0, 1, 8, 9, math.MaxInt}[j%7])
		}
	}
	for _, s := range longTexts() {
		impl.ParseMoves(s)
		impl.ParseMoves("0u+1 " + s)
	}
	for n := range 12 {
		for c := range 256 {
			impl.ParseMoves(strings.Repeat(string([]byte{byte(c)}), n))
			impl.ParseMoves("0u+1 1l-3"[:n%10] + string([]byte{byte(c)}))
		}
	}
}

func TestPromise29MoveFunctionsModifyNothing(t *testing.T) {
	for _, text := range []string{"0l+1 0u+1", "0l+1 0l-1", "0l+1 1l+1 1l-1 0l+1", "0l+1 0l-1 1u+1 1l+2", "0l+1 7l+1", "0l+3 0l+3"} {
		f, g := parsedFrame(t, "1/4 02 00"), parsedFrame(t, "1/4 11 12")
		memory := append(slices.Clone(f.Rods), [2]int{7, 7}, [2]int{-1, 9})
		f.Rods = memory[:2]
		moves := parsedMoves(t, text)
		// What is behind the end of the list must neither be read nor written.
		behind := append(moves, impl.BeadMove{Rod: 9, Part: 9, By: 9}, impl.BeadMove{Rod: 1, Part: 1, By: 1})
		moves = behind[:len(moves)]
		rodsBefore, movesBefore := slices.Clone(memory), slices.Clone(behind)
		frames, lists := callMoveFunctions(f, g, moves, 2)
		if !slices.Equal(memory, rodsBefore) || !slices.Equal(behind, movesBefore) || !sameFrame(g, parsedFrame(t, "1/4 11 12")) {
			t.Errorf("%s: the arguments are now %v, %v and %v", text, memory, g, behind)
		}
		var keptFrames []impl.Frame
		for _, x := range frames {
			keptFrames = append(keptFrames, cloneFrame(x))
		}
		var keptLists [][]impl.BeadMove
		for _, x := range lists {
			keptLists = append(keptLists, slices.Clone(x))
		}
		for i := range memory {
			memory[i] = [2]int{5, 5}
		}
		for i := range behind {
			behind[i] = impl.BeadMove{Rod: 5, Part: 5, By: 5}
		}
		g.Rods[0], g.Rods[1] = [2]int{5, 5}, [2]int{5, 5}
		if !slices.EqualFunc(frames, keptFrames, sameFrame) || !slices.EqualFunc(lists, keptLists, slices.Equal[[]impl.BeadMove]) {
			t.Errorf("%s: results changed with the arguments from %v and %v to %v and %v", text, keptFrames, keptLists, frames, lists)
		}
	}
}

func TestPromise29ResultsOfMovesShareNoMemory(t *testing.T) {
	f := parsedFrame(t, "1/4 02 00")
	moves := parsedMoves(t, "0l+1 1u+1 1u-1")
	frames, lists := callMoveFunctions(f, parsedFrame(t, "1/4 11 12"), moves, 2)
	againFrames, againLists := callMoveFunctions(f, parsedFrame(t, "1/4 11 12"), moves, 2)
	for i, x := range frames {
		for rod := range x.Rods {
			x.Rods[rod] = [2]int{9, 9}
		}
		for j, y := range againFrames {
			if slices.Contains(y.Rods, [2]int{9, 9}) {
				t.Errorf("the frames %d and %d share memory", i, j)
			}
		}
	}
	for i, x := range lists {
		for at := range x {
			x[at] = impl.BeadMove{Rod: 9, Part: 9, By: 9}
		}
		for j, y := range againLists {
			if slices.Contains(y, impl.BeadMove{Rod: 9, Part: 9, By: 9}) {
				t.Errorf("the lists %d and %d share memory", i, j)
			}
		}
	}
	if !sameFrame(f, parsedFrame(t, "1/4 02 00")) || !slices.Equal(moves, parsedMoves(t, "0l+1 1u+1 1u-1")) {
		t.Errorf("results that were changed have changed the arguments to %v and %v", f, moves)
	}
}
