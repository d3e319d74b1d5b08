package tests

import (
	"math"
	"math/rand"
	"slices"
	"strconv"
	"testing"

	"loop.example/g01006/impl"
)

// greatestOn returns the greatest number that some rods with some beads show.
func greatestOn(beads [2]int, rods int) int {
	return (5*beads[0] + beads[1]) * (powerOf10(rods) - 1) / 9
}

// wantedTargets lays rod after rod from the left, in lexicographic order, as long as the others can
// show what is left of the number.
func wantedTargets(f impl.Frame, number int) []impl.Frame {
	var targets []impl.Frame
	beads := [2]int{f.Upper, f.Lower}
	var lay func(laid [][2]int, rest int)
	lay = func(laid [][2]int, rest int) {
		open := len(f.Rods) - len(laid)
		if rest < 0 || rest > greatestOn(beads, open) {
			return
		}
		if open == 0 {
			targets = append(targets, impl.Frame{Upper: f.Upper, Lower: f.Lower, Rods: laid})
			return
		}
		for _, rod := range rodsWith(beads) {
			lay(append(slices.Clip(laid), rod), rest-(5*rod[0]+rod[1])*powerOf10(open-1))
		}
	}
	lay(nil, number)
	return targets
}

// wantedDistance counts the moves between two frames and their beads.
func wantedDistance(f, g impl.Frame) (int, int) {
	moves := wantedBetween(f, g)
	beads := 0
	for _, m := range moves {
		beads += max(m.By, -m.By)
	}
	return len(moves), beads
}

// wantedNearest returns the first of the targets with the fewest moves and then beads, and the
// fewest beads of all targets.
func wantedNearest(f impl.Frame, targets []impl.Frame) (impl.Frame, int) {
	nearest := targets[0]
	fewest, few := wantedDistance(f, nearest)
	all := few
	for _, g := range targets[1:] {
		moves, beads := wantedDistance(f, g)
		all = min(all, beads)
		if moves < fewest || moves == fewest && beads < few {
			nearest, fewest, few = g, moves, beads
		}
	}
	return nearest, all
}

// targetText names a frame and a number for a message.
func targetText(f impl.Frame, number int) string {
	text, ok := impl.FrameText(f)
	if !ok {
		text = "a frame with " + strconv.Itoa(len(f.Rods)) + " rods"
	}
	return text + " to " + strconv.Itoa(number)
}

// checkInt tests a result that is told.
func checkInt(t *testing.T, what string, got int, ok bool, want int) {
	t.Helper()
	if !ok || got != want {
		t.Errorf("%s: %d, %v; want %d", what, got, ok, want)
	}
}

// checkNoInt tests that nothing is told.
func checkNoInt(t *testing.T, what string, got int, ok bool) {
	t.Helper()
	if ok || got != 0 {
		t.Errorf("%s: %d, %v; want nothing", what, got, ok)
	}
}

// checkNoWay tests that no function tells of a way to a number.
func checkNoWay(t *testing.T, f impl.Frame, number int) {
	t.Helper()
	what := targetText(f, number)
	n, ok := impl.FewestMoves(f, number)
	checkNoInt(t, "FewestMoves "+what, n, ok)
	n, ok = impl.FewestBeads(f, number)
	checkNoInt(t, "FewestBeads "+what, n, ok)
	n, ok = impl.SavedMoves(f, number)
	checkNoInt(t, "SavedMoves "+what, n, ok)
	nearest, ok := impl.NearestTarget(f, number)
	checkFrame(t, "NearestTarget "+what, nearest, ok, impl.Frame{}, false)
	moves, ok := impl.MovesTo(f, number)
	checkMoves(t, "MovesTo "+what, moves, ok, nil, false)
}

// checkSaved tests the moves that are saved by a nearest target, against the standard frame.
func checkSaved(t *testing.T, f, nearest impl.Frame, number int) {
	t.Helper()
	saved, ok := impl.SavedMoves(f, number)
	if number >= powerOf10(len(f.Rods)) {
		checkNoInt(t, "SavedMoves "+targetText(f, number), saved, ok)
		return
	}
	fewest, _ := wantedDistance(f, nearest)
	moves, _ := wantedDistance(f, wantedStandard(f.Upper, f.Lower, len(f.Rods), number))
	checkInt(t, "SavedMoves "+targetText(f, number), saved, ok, moves-fewest)
	if saved < 0 {
		t.Errorf("SavedMoves %s: %d", targetText(f, number), saved)
	}
}

// checkTargets tests what is told of a number against all targets that it has.
func checkTargets(t *testing.T, f impl.Frame, number int, targets []impl.Frame) {
	t.Helper()
	what := targetText(f, number)
	count, ok := impl.TargetCount(f, number)
	checkInt(t, "TargetCount "+what, count, ok, len(targets))
	if len(targets) == 0 {
		checkNoWay(t, f, number)
		return
	}
	want, beads := wantedNearest(f, targets)
	fewest, _ := wantedDistance(f, want)
	n, ok := impl.FewestMoves(f, number)
	checkInt(t, "FewestMoves "+what, n, ok, fewest)
	n, ok = impl.FewestBeads(f, number)
	checkInt(t, "FewestBeads "+what, n, ok, beads)
	nearest, ok := impl.NearestTarget(f, number)
	checkFrame(t, "NearestTarget "+what, nearest, ok, want, true)
	moves, ok := impl.MovesTo(f, number)
	checkMoves(t, "MovesTo "+what, moves, ok, wantedBetween(f, want), true)
	played, there := wantedPlayed(f, moves)
	if !there || wantedNumber(played) != number {
		t.Errorf("MovesTo %s: %v leads to %v, %v", what, moves, played, there)
	}
	checkSaved(t, f, want, number)
}

// checkAllTargets tests all numbers that some rods can show, and some that they cannot, from each
// of some frames with the same beads and number of rods.
func checkAllTargets(t *testing.T, frames []impl.Frame) {
	t.Helper()
	first := frames[0]
	greatest := greatestOn([2]int{first.Upper, first.Lower}, len(first.Rods))
	for number := range greatest + 12 {
		targets := wantedTargets(first, number)
		for _, f := range frames {
			checkTargets(t, f, number, targets)
		}
	}
	stopIfFailed(t)
}

func TestPromise13AllNumbersOnShortFrames(t *testing.T) {
	for _, beads := range beadKinds {
		checkAllTargets(t, framesWith(beads, 1))
		checkAllTargets(t, framesWith(beads, 2))
		checkAllTargets(t, []impl.Frame{repeatedFrame(beads[0], beads[1], [2]int{0, beads[1]}, 3), repeatedFrame(beads[0], beads[1], [2]int{beads[0], 1}, 3)})
	}
}

// All frames are taken as ways to the numbers that they show, so that there is none that was
// forgotten.
func TestPromise13NoWayToANumberHasFewerMoves(t *testing.T) {
	for _, beads := range beadKinds {
		for rods := 1; rods <= 2; rods++ {
			frames := framesWith(beads, rods)
			for _, f := range frames {
				for _, g := range frames {
					checkNotFewer(t, f, g)
				}
			}
		}
	}
}

// checkNotFewer tests that the way from one frame to another has at least the moves and the beads
// that are told for its number.
func checkNotFewer(t *testing.T, f, g impl.Frame) {
	t.Helper()
	number := wantedNumber(g)
	moves, beads := wantedDistance(f, g)
	if n, ok := impl.FewestMoves(f, number); !ok || n > moves {
		t.Errorf("FewestMoves %s: %d, %v; %v has %d", targetText(f, number), n, ok, g, moves)
	}
	if n, ok := impl.FewestBeads(f, number); !ok || n > beads {
		t.Errorf("FewestBeads %s: %d, %v; %v has %d", targetText(f, number), n, ok, g, beads)
	}
	if n, ok := impl.TargetCount(f, number); !ok || n < 1 {
		t.Errorf("TargetCount %s: %d, %v", targetText(f, number), n, ok)
	}
}

// randomFrame returns a frame with some beads, of which each form is as frequent as the others.
func randomFrame(random *rand.Rand, beads [2]int, rods int) impl.Frame {
	f := impl.Frame{Upper: beads[0], Lower: beads[1]}
	for range rods {
		f.Rods = append(f.Rods, [2]int{random.Intn(beads[0] + 1), random.Intn(beads[1] + 1)})
	}
	return f
}

func TestPromise13NoPlayedMovesAreFewer(t *testing.T) {
	random := rand.New(rand.NewSource(13))
	for i := range 4000 {
		beads := beadKinds[i%4]
		f := randomFrame(random, beads, 1+i/4%impl.MaxRods)
		g := cloneFrame(f)
		for n := 1; n <= 12; n++ {
			rod, part := random.Intn(len(f.Rods)), random.Intn(2)
			g.Rods[rod][part] = random.Intn(beads[part] + 1)
			checkNotFewer(t, f, g)
			if told, ok := impl.FewestMoves(f, wantedNumber(g)); !ok || told > n {
				t.Errorf("FewestMoves %s: %d, %v, but %d moves lead there", targetText(f, wantedNumber(g)), told, ok, n)
			}
		}
		stopIfFailed(t)
	}
}

// numbersToShow are numbers around the greatest ones that some rods show, rows of one digit, and
// others of each length.
func numbersToShow(random *rand.Rand, beads [2]int, rods int) []int {
	greatest := greatestOn(beads, rods)
	numbers := []int{0, 1, greatest - 1, greatest, greatest + 1, powerOf10(rods) - 1, powerOf10(rods), powerOf10(rods) + 1}
	for digit := 1; digit <= 9; digit++ {
		numbers = append(numbers, digit*greatestOn([2]int{0, 1}, rods))
	}
	for range 10 {
		numbers = append(numbers, random.Intn(greatest+1)/powerOf10(random.Intn(rods)), wantedNumber(randomFrame(random, beads, rods)))
	}
	return numbers
}

func TestPromise13ManyNumbersOnLongFrames(t *testing.T) {
	random := rand.New(rand.NewSource(1313))
	for _, beads := range beadKinds {
		for rods := 3; rods <= impl.MaxRods; rods++ {
			for range 3 {
				f := randomFrame(random, beads, rods)
				for _, number := range append(numbersToShow(random, beads, rods), wantedNumber(f)) {
					checkTargets(t, f, number, wantedTargets(f, number))
				}
				stopIfFailed(t)
			}
		}
	}
}

func TestPromise13LongFramesThatAreAlike(t *testing.T) {
	random := rand.New(rand.NewSource(131313))
	for i, f := range longFrames() {
		numbers := numbersToShow(random, [2]int{f.Upper, f.Lower}, len(f.Rods))
		for _, number := range []int{wantedNumber(f), numbers[i%len(numbers)]} {
			checkTargets(t, f, number, wantedTargets(f, number))
		}
	}
}

// Each frame shows just one number, and is one of its targets.
func TestEachFrameIsATargetOfOneNumber(t *testing.T) {
	for _, beads := range beadKinds {
		all := 1
		for rods := 1; rods <= 4; rods++ {
			all *= (beads[0] + 1) * (beads[1] + 1)
			f := repeatedFrame(beads[0], beads[1], [2]int{}, rods)
			sum := 0
			for number := range greatestOn(beads, rods) + 2 {
				count, _ := impl.TargetCount(f, number)
				sum += count
			}
			if sum != all {
				t.Errorf("%d rods with the beads %v have %d targets; want %d", rods, beads, sum, all)
			}
		}
	}
}

func TestPromise13KnownTargets(t *testing.T) {
	for _, c := range []struct {
		frame         string
		number        int
		count         int
		moves, beads  int
		nearest, text string
		saved         int // -1 if there is no standard frame
	}{
		{"2/5 00 00", 10, 3, 1, 1, "2/5 01 00", "0l+1", 0},
		{"2/5 00 00", 15, 3, 2, 2, "2/5 01 10", "0l+1 1u+1", 0},
		{"2/5 04", 5, 2, 1, 1, "2/5 05", "0l+1", 1},
		// The frame shows the number already: in a standard way, and in others.
		{"1/4 03 14", 39, 1, 0, 0, "1/4 03 14", "", 0},
		{"2/5 00 00", 0, 1, 0, 0, "2/5 00 00", "", 0},
		{"2/5 10", 5, 2, 0, 0, "2/5 10", "", 0},
		{"2/5 05", 5, 2, 0, 0, "2/5 05", "", 2},
		{"2/5 20", 10, 2, 0, 0, "2/5 20", "", -1},
		{"2/5 00 15", 10, 3, 0, 0, "2/5 00 15", "", 3},
		{"2/5 04 25", 55, 5, 0, 0, "2/5 04 25", "", 4},
		{"2/5 25 25", 165, 1, 0, 0, "2/5 25 25", "", -1},
		// No, one and all parts are moved.
		{"1/4 00", 5, 1, 1, 1, "1/4 10", "0u+1", 0},
		{"1/4 00", 9, 1, 2, 5, "1/4 14", "0u+1 0l+4", 0},
		{"1/4 14", 0, 1, 2, 5, "1/4 00", "0u-1 0l-4", 0},
		{"1/4 14 14", 0, 1, 4, 10, "1/4 00 00", "0u-1 0l-4 1u-1 1l-4", 0},
		{"2/4 00 14", 70, 2, 4, 7, "2/4 11 20", "0u+1 0l+1 1u+1 1l-4", 0},
		{"2/5 00 00 00 00 00 00 00 00", 166666665, 1, 16, 56, "2/5 25 25 25 25 25 25 25 25", "0u+2 0l+5 1u+2 1l+5 2u+2 2l+5 3u+2 3l+5 4u+2 4l+5 5u+2 5l+5 6u+2 6l+5 7u+2 7l+5", -1},
		// Several targets have the fewest moves, and one of them fewer beads, which need not be the first.
		{"1/5 00", 5, 2, 1, 1, "1/5 10", "0u+1", 0},
		{"1/5 00 11", 59, 2, 2, 4, "1/5 10 14", "0u+1 1l+3", 0},
		{"1/5 03 05", 20, 2, 2, 3, "1/5 01 15", "0l-2 1u+1", 0},
		{"2/4 00 03", 10, 2, 2, 4, "2/4 01 00", "0l+1 1l-3", 0},
		{"2/4 00 13", 43, 2, 2, 4, "2/4 03 23", "0l+3 1u+1", 0},
		{"1/5 00 10", 55, 4, 1, 1, "1/5 10 10", "0u+1", 0},
		// Several targets have the fewest moves and the fewest beads among them.
		{"2/5 02", 10, 2, 2, 4, "2/5 15", "0u+1 0l+3", -1},
		{"2/5 02 15", 106, 2, 3, 8, "2/5 15 11", "0u+1 0l+3 1l-4", -1},
		{"2/5 23 15", 60, 5, 2, 4, "2/5 05 15", "0u-2 0l+2", 2},
		// Fewer beads need more moves.
		{"1/5 01", 5, 2, 1, 2, "1/5 05", "0l+4", 1},
		{"1/5 01 03", 52, 2, 2, 3, "1/5 05 02", "0l+4 1l-1", 1},
		{"1/5 03 11", 20, 2, 2, 3, "1/5 01 15", "0l-2 1l+4", 1},
		{"1/5 01 10", 50, 3, 2, 3, "1/5 05 00", "0l+4 1u-1", 1},
		// The greatest number of standard rods, and numbers that only rods with values above 9 can show.
		{"1/4 14 14", 99, 1, 0, 0, "1/4 14 14", "", 0},
		{"1/5 00 00", 100, 2, 2, 6, "1/5 15 00", "0u+1 0l+5", -1},
		{"1/5 14 14", 100, 2, 1, 1, "1/5 14 15", "1l+1", -1},
		{"1/5 14 14", 110, 1, 2, 2, "1/5 15 15", "0l+1 1l+1", -1},
		{"2/4 00", 14, 1, 2, 6, "2/4 24", "0u+2 0l+4", -1},
		{"2/5 00 14", 160, 2, 3, 8, "2/5 25 15", "0u+2 0l+5 1l+1", -1},
	} {
		f := parsedFrame(t, c.frame)
		count, ok := impl.TargetCount(f, c.number)
		checkInt(t, "TargetCount "+targetText(f, c.number), count, ok, c.count)
		n, ok := impl.FewestMoves(f, c.number)
		checkInt(t, "FewestMoves "+targetText(f, c.number), n, ok, c.moves)
		n, ok = impl.FewestBeads(f, c.number)
		checkInt(t, "FewestBeads "+targetText(f, c.number), n, ok, c.beads)
		nearest, ok := impl.NearestTarget(f, c.number)
		checkFrame(t, "NearestTarget "+targetText(f, c.number), nearest, ok, parsedFrame(t, c.nearest), true)
		moves, ok := impl.MovesTo(f, c.number)
		checkMoves(t, "MovesTo "+targetText(f, c.number), moves, ok, parsedMoves(t, c.text), true)
		n, ok = impl.SavedMoves(f, c.number)
		if c.saved < 0 {
			checkNoInt(t, "SavedMoves "+targetText(f, c.number), n, ok)
		} else {
			checkInt(t, "SavedMoves "+targetText(f, c.number), n, ok, c.saved)
		}
	}
}

func TestPromise13NumbersWithoutATarget(t *testing.T) {
	for _, c := range []struct {
		frame  string
		number int
	}{
		{"1/4 04", 10}, {"1/4 14", 10}, {"1/5 15", 11}, {"2/4 24", 15}, {"2/5 25", 16}, {"2/5 00", 20},
		{"1/4 00 00", 100}, {"1/4 14 14", 109}, {"1/5 00 00", 111}, {"2/4 00 00", 155}, {"2/4 24 24", 155}, {"2/5 00 00", 166}, {"2/5 25 25", 1650},
		{"1/4 14 14 14 14 14 14 14 14", 100000000}, {"2/5 25 25 25 25 25 25 25 25", 166666666}, {"2/4 24 24 24 24 24 24 24 24", 155555555},
	} {
		f := parsedFrame(t, c.frame)
		count, ok := impl.TargetCount(f, c.number)
		checkInt(t, "TargetCount "+targetText(f, c.number), count, ok, 0)
		checkNoWay(t, f, c.number)
	}
}

// checkNothingTold tests that no function tells anything of a number, not even how many targets it
// has.
func checkNothingTold(t *testing.T, f impl.Frame, number int) {
	t.Helper()
	count, ok := impl.TargetCount(f, number)
	checkNoInt(t, "TargetCount "+targetText(f, number), count, ok)
	checkNoWay(t, f, number)
}

func TestPromise13NegativeNumbersHaveZeroValues(t *testing.T) {
	for _, f := range append(shortFrames(1), longFrames()[:20]...) {
		for _, number := range []int{math.MinInt, math.MinInt + 1, -1 << 32, -166666665, -100, -20, -16, -15, -11, -10, -9, -5, -1} {
			checkNothingTold(t, f, number)
		}
	}
}

func TestPromise13InvalidFramesHaveZeroValues(t *testing.T) {
	for _, f := range invalidFrames() {
		for _, number := range []int{-1, 0, 1, 5, 10, 38, 100, 166666665, math.MaxInt} {
			checkNothingTold(t, f, number)
		}
		for moves := -1; moves <= 5; moves++ {
			checkNotReached(t, f, moves)
		}
	}
}

func TestPromise13GreatNumbersHaveNoTarget(t *testing.T) {
	for _, f := range append(shortFrames(1), longFrames()...) {
		greatest := greatestOn([2]int{f.Upper, f.Lower}, len(f.Rods))
		for _, number := range []int{greatest + 1, greatest + 10, 10*greatest + 9, 1 << 32, math.MaxInt - 9, math.MaxInt} {
			checkTargets(t, f, number, nil)
		}
	}
}

func TestFormsOfValues(t *testing.T) {
	for _, beads := range beadKinds {
		forms := map[int][][2]int{}
		for _, rod := range rodsWith(beads) {
			forms[5*rod[0]+rod[1]] = append(forms[5*rod[0]+rod[1]], rod)
		}
		for value := range 16 {
			got, ok := impl.FormsOf(beads[0], beads[1], value)
			if !ok || !slices.Equal(got, forms[value]) {
				t.Errorf("FormsOf(%d, %d, %d) = %v, %v; want %v", beads[0], beads[1], value, got, ok, forms[value])
			}
		}
	}
}

func TestKnownForms(t *testing.T) {
	for _, c := range []struct {
		upper, lower, value int
		want                [][2]int
	}{
		{1, 4, 0, [][2]int{{0, 0}}}, {1, 4, 4, [][2]int{{0, 4}}}, {1, 4, 5, [][2]int{{1, 0}}}, {1, 4, 9, [][2]int{{1, 4}}}, {1, 4, 10, nil}, {1, 4, 15, nil},
		{1, 5, 0, [][2]int{{0, 0}}}, {1, 5, 5, [][2]int{{0, 5}, {1, 0}}}, {1, 5, 6, [][2]int{{1, 1}}}, {1, 5, 10, [][2]int{{1, 5}}}, {1, 5, 11, nil}, {1, 5, 15, nil},
		{2, 4, 4, [][2]int{{0, 4}}}, {2, 4, 5, [][2]int{{1, 0}}}, {2, 4, 10, [][2]int{{2, 0}}}, {2, 4, 14, [][2]int{{2, 4}}}, {2, 4, 15, nil},
		{2, 5, 0, [][2]int{{0, 0}}}, {2, 5, 5, [][2]int{{0, 5}, {1, 0}}}, {2, 5, 9, [][2]int{{1, 4}}}, {2, 5, 10, [][2]int{{1, 5}, {2, 0}}}, {2, 5, 11, [][2]int{{2, 1}}}, {2, 5, 15, [][2]int{{2, 5}}},
	} {
		if got, ok := impl.FormsOf(c.upper, c.lower, c.value); !ok || !slices.Equal(got, c.want) {
			t.Errorf("FormsOf(%d, %d, %d) = %v, %v; want %v", c.upper, c.lower, c.value, got, ok, c.want)
		}
	}
}

// checkNoForms tests that FormsOf fails.
func checkNoForms(t *testing.T, upper, lower, value int) {
	t.Helper()
	if forms, ok := impl.FormsOf(upper, lower, value); ok || len(forms) != 0 {
		t.Errorf("FormsOf(%d, %d, %d) = %v, %v", upper, lower, value, forms, ok)
	}
}

func TestFormsOfOtherBeadsAndValues(t *testing.T) {
	for value := range 16 {
		for _, upper := range append(numbersOutside(1, 2), 0, 4, 5) {
			for _, lower := range []int{4, 5, upper} {
				checkNoForms(t, upper, lower, value)
			}
		}
		for _, lower := range append(numbersOutside(4, 5), 0, 1, 2) {
			for _, upper := range []int{1, 2, lower} {
				checkNoForms(t, upper, lower, value)
			}
		}
	}
	for _, beads := range beadKinds {
		for _, value := range append(numbersOutside(0, 15), 20) {
			checkNoForms(t, beads[0], beads[1], value)
		}
	}
}

// checkNotReached tests that ReachedIn fails.
func checkNotReached(t *testing.T, f impl.Frame, moves int) {
	t.Helper()
	if numbers, ok := impl.ReachedIn(f, moves); ok || len(numbers) != 0 {
		t.Errorf("ReachedIn %s moves: %v, %v", targetText(f, moves), numbers, ok)
	}
}

// A number is reached just if a frame that shows it differs in no more parts than there are moves.
func TestPromise13NumbersReachedByShortFrames(t *testing.T) {
	for _, beads := range beadKinds {
		for rods := 1; rods <= 2; rods++ {
			frames := framesWith(beads, rods)
			for _, f := range frames {
				reached := [5][]int{}
				for _, g := range frames {
					needed, _ := wantedDistance(f, g)
					for moves := needed; moves <= 4; moves++ {
						reached[moves] = append(reached[moves], wantedNumber(g))
					}
				}
				for moves, want := range reached {
					slices.Sort(want)
					numbers, ok := impl.ReachedIn(f, moves)
					checkInts(t, "ReachedIn "+targetText(f, moves)+" moves", numbers, ok, slices.Compact(want)...)
				}
			}
		}
	}
}

// A number is reached just if no more moves are told for it, of all numbers that there may be.
func TestPromise13NumbersAreReachedInTheFewestMoves(t *testing.T) {
	for _, f := range shortFrames(2) {
		for moves := range 5 {
			var want []int
			for number := range 170 {
				if n, ok := impl.FewestMoves(f, number); ok && n <= moves {
					want = append(want, number)
				}
			}
			numbers, ok := impl.ReachedIn(f, moves)
			checkInts(t, "ReachedIn "+targetText(f, moves)+" moves", numbers, ok, want...)
		}
		stopIfFailed(t)
	}
}

// playedNumbers returns the numbers that a frame shows after at most some moves that are played
// one after the other.
func playedNumbers(f impl.Frame, moves int) []int {
	frames := []impl.Frame{f}
	for range moves {
		for _, g := range frames {
			for _, m := range allBeadMoves(len(f.Rods)) {
				next, ok := wantedPlayed(g, []impl.BeadMove{m})
				if ok && !slices.ContainsFunc(frames, func(x impl.Frame) bool { return sameFrame(x, next) }) {
					frames = append(frames, next)
				}
			}
		}
	}
	var numbers []int
	for _, g := range frames {
		numbers = append(numbers, wantedNumber(g))
	}
	slices.Sort(numbers)
	return slices.Compact(numbers)
}

func TestNumbersReachedAreThoseOfPlayedMoves(t *testing.T) {
	for _, text := range []string{"1/4 04", "1/4 14", "1/5 05", "2/4 20", "2/5 15", "1/4 00 00", "1/5 04 10", "2/4 24 03", "2/5 15 20"} {
		f := parsedFrame(t, text)
		for moves := range 5 {
			numbers, ok := impl.ReachedIn(f, moves)
			checkInts(t, "ReachedIn "+targetText(f, moves)+" moves", numbers, ok, playedNumbers(f, moves)...)
		}
	}
}

func TestKnownReachedNumbers(t *testing.T) {
	all := func(n int) []int {
		var numbers []int
		for number := range n {
			numbers = append(numbers, number)
		}
		return numbers
	}
	for _, c := range []struct {
		frame string
		moves int
		want  []int
	}{
		{"1/4 04", 0, []int{4}}, {"1/4 04", 1, []int{0, 1, 2, 3, 4, 9}}, {"1/4 04", 2, all(10)}, {"1/4 04", 3, all(10)}, {"1/4 04", 4, all(10)},
		{"1/4 00", 1, []int{0, 1, 2, 3, 4, 5}}, {"1/4 14", 1, []int{4, 5, 6, 7, 8, 9}},
		// 5 and 10 have two forms.
		{"1/5 00", 1, []int{0, 1, 2, 3, 4, 5}}, {"1/5 00", 2, all(11)},
		{"2/5 00", 1, []int{0, 1, 2, 3, 4, 5, 10}}, {"2/5 15", 1, []int{5, 6, 7, 8, 9, 10, 15}}, {"2/5 25", 0, []int{15}}, {"2/5 25", 2, all(16)},
		{"2/4 20", 1, []int{0, 5, 10, 11, 12, 13, 14}}, {"2/4 00", 4, all(15)},
		{"1/4 00 00", 0, []int{0}}, {"1/4 00 00", 1, []int{0, 1, 2, 3, 4, 5, 10, 20, 30, 40, 50}}, {"1/4 00 00", 4, all(100)},
		{"1/4 03 14", 1, []int{9, 19, 29, 34, 35, 36, 37, 38, 39, 49, 89}},
		{"2/5 01 00", 1, []int{0, 10, 11, 12, 13, 14, 15, 20, 30, 40, 50, 60, 110}}, {"2/5 00 00", 1, []int{0, 1, 2, 3, 4, 5, 10, 20, 30, 40, 50, 100}},
		{"1/5 00 00", 4, all(111)}, {"2/4 00 00", 4, all(155)}, {"2/5 25 25", 4, all(166)}, {"2/5 25 25", 0, []int{165}},
	} {
		f := parsedFrame(t, c.frame)
		numbers, ok := impl.ReachedIn(f, c.moves)
		checkInts(t, "ReachedIn "+targetText(f, c.moves)+" moves", numbers, ok, c.want...)
	}
}

func TestNothingReachedByMoreRodsOrMoves(t *testing.T) {
	for _, f := range shortFrames(2) {
		for _, moves := range numbersOutside(0, 4) {
			checkNotReached(t, f, moves)
		}
	}
	for _, beads := range beadKinds {
		for rods := 3; rods <= impl.MaxRods+1; rods++ {
			for moves := -1; moves <= 5; moves++ {
				checkNotReached(t, repeatedFrame(beads[0], beads[1], [2]int{}, rods), moves)
				checkNotReached(t, repeatedFrame(beads[0], beads[1], beads, rods), moves)
			}
		}
	}
}

// callFewestFunctions calls each function and returns the frame, the moves and the lists among the
// results.
func callFewestFunctions(f impl.Frame, number, moves, value int) (impl.Frame, []impl.BeadMove, []int, [][2]int) {
	impl.TargetCount(f, number)
	impl.FewestMoves(f, number)
	impl.FewestBeads(f, number)
	impl.SavedMoves(f, number)
	nearest, _ := impl.NearestTarget(f, number)
	way, _ := impl.MovesTo(f, number)
	reached, _ := impl.ReachedIn(f, moves)
	forms, _ := impl.FormsOf(f.Upper, f.Lower, value)
	return nearest, way, reached, forms
}

func TestPromise29FewestMovesReturnForAllArguments(t *testing.T) {
	numbers := []int{math.MinInt, math.MinInt + 1, -1 << 32, -1, 0, 1, 2, 4, 5, 9, 10, 15, 16, 55555555, 111111111, 166666665, 1 << 32, math.MaxInt - 1, math.MaxInt}
	for i, f := range framesOfAllKinds() {
		for j, number := range numbers {
			for k, moves := range numbers {
				callFewestFunctions(f, number, moves, numbers[(i+j+k)%len(numbers)])
			}
			impl.FormsOf(number, numbers[(i+j)%len(numbers)], numbers[i%len(numbers)])
		}
	}
}

func TestPromise29FewestMovesModifyNothing(t *testing.T) {
	for _, text := range textsOfThreeRods() {
		// Also the frame's own number, which it shows already, must be shown by new rods.
		for _, number := range []int{-1, 0, 5, 50, 99, 110, 500, 1000, 1665, wantedNumber(parsedFrame(t, text))} {
			checkFrameApart(t, text, func(f impl.Frame) impl.Frame {
				nearest, _, _, _ := callFewestFunctions(f, number, 4, 10)
				return nearest
			})
		}
	}
	f := parsedFrame(t, "2/5 15 20")
	rods, memory := longerList(f.Rods, [2]int{1, 1}, [2]int{7, -7})
	before := slices.Clone(memory)
	f.Rods = rods
	if numbers, ok := impl.ReachedIn(f, 2); !ok || len(numbers) == 0 || !slices.Equal(memory, before) {
		t.Error("ReachedIn:", numbers, ok, memory)
	}
}

func TestPromise29ResultsOfFewestMovesShareNoMemory(t *testing.T) {
	f := parsedFrame(t, "2/5 02 15")
	nearest, way, reached, forms := callFewestFunctions(f, 106, 2, 10)
	again, secondWay, secondReached, secondForms := callFewestFunctions(f, 106, 2, 10)
	if len(nearest.Rods) != 2 || len(way) != 3 || len(reached) < 20 || len(forms) != 2 {
		t.Fatal("not all calls had results", nearest, way, reached, forms)
	}
	wanted := slices.Clone(reached)
	clear(nearest.Rods)
	clear(way)
	clear(reached)
	clear(forms)
	checkFrame(t, "the target of another call", again, true, parsedFrame(t, "2/5 15 11"), true)
	checkMoves(t, "the moves of another call", secondWay, true, parsedMoves(t, "0u+1 0l+3 1l-4"), true)
	checkInts(t, "the numbers of another call", secondReached, true, wanted...)
	if !slices.Equal(secondForms, [][2]int{{1, 5}, {2, 0}}) {
		t.Error("the forms of two calls share memory:", secondForms)
	}
	if !sameFrame(f, parsedFrame(t, "2/5 02 15")) {
		t.Error("the argument shares memory with a result:", f)
	}
}
