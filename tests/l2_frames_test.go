package tests

import (
	"math"
	"slices"
	"strconv"
	"strings"
	"testing"

	"loop.example/g01006/impl"
)

// beadKinds are the Upper and Lower beads of all valid frames.
var beadKinds = [][2]int{{1, 4}, {1, 5}, {2, 4}, {2, 5}}

// rodsWith returns all rods that are possible with some beads.
func rodsWith(beads [2]int) [][2]int {
	var all [][2]int
	for up := 0; up <= beads[0]; up++ {
		for low := 0; low <= beads[1]; low++ {
			all = append(all, [2]int{up, low})
		}
	}
	return all
}

// framesWith returns all frames with some beads and a number of rods.
func framesWith(beads [2]int, rods int) []impl.Frame {
	all := [][][2]int{{}}
	for range rods {
		var longer [][][2]int
		for _, list := range all {
			for _, rod := range rodsWith(beads) {
				longer = append(longer, append(slices.Clip(list), rod))
			}
		}
		all = longer
	}
	var frames []impl.Frame
	for _, list := range all {
		frames = append(frames, impl.Frame{Upper: beads[0], Lower: beads[1], Rods: list})
	}
	return frames
}

// shortFrames returns all frames of all kinds of beads with 1..rods rods.
func shortFrames(rods int) []impl.Frame {
	var all []impl.Frame
	for _, beads := range beadKinds {
		for n := 1; n <= rods; n++ {
			all = append(all, framesWith(beads, n)...)
		}
	}
	return all
}

// repeatedFrame returns a frame with n equal rods.
func repeatedFrame(upper, lower int, rod [2]int, n int) impl.Frame {
	return impl.Frame{Upper: upper, Lower: lower, Rods: slices.Repeat([][2]int{rod}, n)}
}

// longFrames are frames with MaxRods rods, standard and not, the last ones with the value 15 on
// some or all of their rods.
func longFrames() []impl.Frame {
	var all []impl.Frame
	for _, beads := range beadKinds {
		for _, rod := range rodsWith(beads) {
			f := repeatedFrame(beads[0], beads[1], rod, impl.MaxRods)
			all = append(all, f)
			for i := range f.Rods {
				g := repeatedFrame(beads[0], beads[1], [2]int{1, 4}, impl.MaxRods)
				g.Rods[i] = rod
				h := repeatedFrame(beads[0], beads[1], [2]int{}, impl.MaxRods)
				h.Rods[i] = rod
				all = append(all, g, h)
			}
		}
	}
	return all
}

// invalidFrames are frames that differ from valid ones in just one place, and worse ones.
func invalidFrames() []impl.Frame {
	one := [][2]int{{0, 3}, {1, 4}}
	frames := []impl.Frame{{}, {Upper: 1, Lower: 4}, {Upper: 1, Lower: 4, Rods: [][2]int{}}, {Rods: one}, {Upper: 4, Lower: 1, Rods: one},
		repeatedFrame(1, 4, [2]int{}, impl.MaxRods+1), repeatedFrame(2, 5, [2]int{2, 5}, impl.MaxRods+1), repeatedFrame(1, 4, [2]int{}, 1<<16)}
	for _, n := range []int{math.MinInt, -1, 0, 3, 4, 5, 10, math.MaxInt} {
		frames = append(frames, impl.Frame{Upper: n, Lower: 4, Rods: one})
	}
	for _, n := range []int{math.MinInt, -4, 0, 1, 2, 3, 6, 10, math.MaxInt} {
		frames = append(frames, impl.Frame{Upper: 2, Lower: n, Rods: one})
	}
	for _, beads := range beadKinds {
		for _, rod := range [][2]int{{beads[0] + 1, 0}, {0, beads[1] + 1}, {-1, 0}, {0, -1}, {-1, 5}, {1, -5}, {math.MinInt, 0}, {0, math.MinInt}, {math.MaxInt, 0}, {0, math.MaxInt}} {
			for _, n := range []int{1, 2, impl.MaxRods} {
				for i := range n {
					f := repeatedFrame(beads[0], beads[1], [2]int{}, n)
					f.Rods[i] = rod
					frames = append(frames, f)
				}
			}
		}
	}
	return frames
}

// cloneFrame returns a frame with memory of its own.
func cloneFrame(f impl.Frame) impl.Frame {
	f.Rods = slices.Clone(f.Rods)
	return f
}

func sameFrame(a, b impl.Frame) bool {
	return a.Upper == b.Upper && a.Lower == b.Lower && slices.Equal(a.Rods, b.Rods)
}

// powerOf10 returns 1 with n zeros.
func powerOf10(n int) int {
	p := 1
	for range n {
		p *= 10
	}
	return p
}

// wantedNumber adds the values of all rods at their places, from the units on.
func wantedNumber(f impl.Frame) int {
	sum := 0
	for i, rod := range f.Rods {
		sum += (5*rod[0] + rod[1]) * powerOf10(len(f.Rods)-1-i)
	}
	return sum
}

// wantedStandard writes a number with zeros at its left, and looks up the rod of each digit.
func wantedStandard(upper, lower, rods, number int) impl.Frame {
	digits := strconv.Itoa(number)
	digits = strings.Repeat("0", rods-len(digits)) + digits
	table := [10][2]int{{0, 0}, {0, 1}, {0, 2}, {0, 3}, {0, 4}, {1, 0}, {1, 1}, {1, 2}, {1, 3}, {1, 4}}
	f := impl.Frame{Upper: upper, Lower: lower}
	for _, c := range digits {
		f.Rods = append(f.Rods, table[c-'0'])
	}
	return f
}

// checkFrame tests a result against the frame that is wanted, or against none if there is none.
func checkFrame(t *testing.T, what string, got impl.Frame, ok bool, want impl.Frame, there bool) {
	t.Helper()
	if ok != there || there && !sameFrame(got, want) || !there && (got.Upper != 0 || got.Lower != 0 || len(got.Rods) != 0) {
		t.Errorf("%s: %v, %v; want %v, %v", what, got, ok, want, there)
	}
}

// checkMadeStandard tests that a frame is made standard with the same number, or not at all if
// that has more digits than the frame has rods.
func checkMadeStandard(t *testing.T, f impl.Frame) {
	t.Helper()
	number := wantedNumber(f)
	before := cloneFrame(f)
	s, ok := impl.MadeStandard(f)
	if number >= powerOf10(len(f.Rods)) {
		checkFrame(t, "number with too many digits", s, ok, impl.Frame{}, false)
	} else {
		checkFrame(t, "made standard", s, ok, wantedStandard(f.Upper, f.Lower, len(f.Rods), number), true)
		if n, fine := impl.NumberOn(s); !fine || n != number {
			t.Errorf("%v made standard has the number %d, %v; want %d", f, n, fine, number)
		}
		if y, fine := impl.IsStandard(s); !fine || !y {
			t.Errorf("%v made standard is %v, which is not standard", f, s)
		}
		again, fine := impl.MadeStandard(s)
		checkFrame(t, "made standard again", again, fine, s, true)
	}
	if !sameFrame(f, before) {
		t.Errorf("%v was changed to %v", before, f)
	}
}

func TestPromise2MakingStandardKeepsTheNumberOfShortFrames(t *testing.T) {
	for _, f := range shortFrames(3) {
		checkMadeStandard(t, f)
	}
}

func TestPromise2MakingStandardKeepsTheNumberOfLongFrames(t *testing.T) {
	for _, f := range longFrames() {
		checkMadeStandard(t, f)
	}
}

func TestPromise2KnownFramesMadeStandard(t *testing.T) {
	for _, c := range [][2]string{
		{"1/4 03 14", "1/4 03 14"},
		{"2/5 00 25", "2/5 01 10"},
		{"2/5 05", "2/5 10"},
		{"2/4 00 20", "2/4 01 00"},
		{"1/5 00 15", "1/5 01 00"},
		{"2/5 01 25", "2/5 02 10"},
		{"2/5 13 25", "2/5 14 10"},
		{"2/5 14 25", ""},
		{"2/5 25", ""},
		{"2/5 15", ""},
		{"2/5 20", ""},
		{"2/5 14", "2/5 14"},
		{"2/4 14 20", ""},
		{"1/5 14 14 15", ""},
		{"1/5 14 13 15", "1/5 14 14 00"},
		{"2/5 25 00", ""},
		{"2/5 00 25 25", "2/5 01 11 10"},
		{"2/5 00 25 25 25 25 25 25 25", "2/5 01 11 11 11 11 11 11 10"},
		{"2/5 14 14 14 14 14 14 13 25", "2/5 14 14 14 14 14 14 14 10"},
		{"2/5 14 14 14 14 14 14 14 15", ""},
		{"2/5 14 14 14 14 14 14 14 14", "2/5 14 14 14 14 14 14 14 14"},
		{"2/5 15 00 00 00 00 00 00 00", ""},
		{"2/5 25 25 25 25 25 25 25 25", ""},
	} {
		f, ok := impl.ParseFrame(c[0])
		if !ok {
			t.Fatal("no frame:", c[0])
		}
		s, ok := impl.MadeStandard(f)
		if text, _ := impl.FrameText(s); ok != (c[1] != "") || text != c[1] {
			t.Errorf("%s made standard is %q, %v; want %q", c[0], text, ok, c[1])
		}
	}
}

func TestPromise2NumbersOfFrames(t *testing.T) {
	for _, f := range append(shortFrames(3), longFrames()...) {
		if n, ok := impl.NumberOn(f); !ok || n != wantedNumber(f) {
			t.Errorf("NumberOn(%v) = %d, %v; want %d", f, n, ok, wantedNumber(f))
		}
	}
	for text, want := range map[string]int{"1/4 03 14": 39, "2/5 25": 15, "2/5 25 25": 165, "1/4 00": 0, "2/5 25 25 25 25 25 25 25 25": 166666665, "1/4 14 14 14 14 14 14 14 14": 99999999, "1/4 01 00 00 00 00 00 00 00": 10000000} {
		f, _ := impl.ParseFrame(text)
		if n, ok := impl.NumberOn(f); !ok || n != want {
			t.Errorf("NumberOn(%s) = %d, %v; want %d", text, n, ok, want)
		}
	}
}

func TestPromise2FramesForAllShortNumbers(t *testing.T) {
	for upper := -1; upper <= 4; upper++ {
		for lower := 2; lower <= 7; lower++ {
			for rods := -1; rods <= 3; rods++ {
				checkFramesFor(t, upper, lower, rods, 1001)
			}
		}
	}
}

// checkFramesFor tests FrameFor for all numbers from some negative ones up to last.
func checkFramesFor(t *testing.T, upper, lower, rods, last int) {
	t.Helper()
	for number := -11; number <= last; number++ {
		checkFrameFor(t, upper, lower, rods, number)
	}
}

func checkFrameFor(t *testing.T, upper, lower, rods, number int) {
	t.Helper()
	there := slices.Contains(beadKinds, [2]int{upper, lower}) && rods >= 1 && rods <= impl.MaxRods && number >= 0
	there = there && number < powerOf10(rods)
	var want impl.Frame
	if there {
		want = wantedStandard(upper, lower, rods, number)
	}
	f, ok := impl.FrameFor(upper, lower, rods, number)
	checkFrame(t, "FrameFor "+strconv.Itoa(number), f, ok, want, there)
	if y, fine := impl.IsStandard(f); there && (!fine || !y) {
		t.Errorf("FrameFor gives %v, which is not standard", f)
	}
	if n, fine := impl.NumberOn(f); there && (!fine || n != number) {
		t.Errorf("FrameFor %d gives %v with the number %d", number, f, n)
	}
}

func TestPromise2FramesForNumbersAtTheLimit(t *testing.T) {
	for rods := -1; rods <= impl.MaxRods+2; rods++ {
		for _, beads := range beadKinds {
			for digits := range 11 {
				for by := -1; by <= 1; by++ {
					checkFrameFor(t, beads[0], beads[1], rods, powerOf10(digits)+by)
				}
			}
			for _, number := range []int{math.MinInt, -100000000, 12345678, 90000009, 1 << 32, math.MaxInt} {
				checkFrameFor(t, beads[0], beads[1], rods, number)
			}
		}
	}
	for _, n := range []int{math.MinInt, -1 << 32, 9, 10, 1 << 32, math.MaxInt} {
		checkFrameFor(t, 1, 4, n, 0)
		checkFrameFor(t, n, 4, 1, 0)
		checkFrameFor(t, 1, n, 1, 0)
	}
}

func TestFramesAreValid(t *testing.T) {
	for _, f := range append(shortFrames(3), longFrames()...) {
		if !impl.IsFrame(f) {
			t.Errorf("IsFrame(%v) is false", f)
		}
	}
	for _, f := range invalidFrames() {
		if impl.IsFrame(f) {
			t.Errorf("a frame with %d rods and beads %d and %d is valid", len(f.Rods), f.Upper, f.Lower)
		}
	}
}

func TestFramesWithOneToMaxRodsAreValid(t *testing.T) {
	for n := range 2 * impl.MaxRods {
		if ok := impl.IsFrame(repeatedFrame(2, 5, [2]int{2, 5}, n)); ok != (n >= 1 && n <= 8) {
			t.Errorf("IsFrame with %d rods is %v", n, ok)
		}
	}
	if impl.MaxRods != 8 || impl.MaxDay != 4000 {
		t.Error("limits", impl.MaxRods, impl.MaxDay)
	}
}

func TestValuesOfRods(t *testing.T) {
	for _, f := range append(shortFrames(2), longFrames()...) {
		for i, rod := range f.Rods {
			if v, ok := impl.RodValue(f, i); !ok || v != 5*rod[0]+rod[1] {
				t.Errorf("RodValue(%v, %d) = %d, %v", f, i, v, ok)
			}
		}
		for _, i := range []int{math.MinInt, -1, len(f.Rods), len(f.Rods) + 1, math.MaxInt} {
			if v, ok := impl.RodValue(f, i); ok || v != 0 {
				t.Errorf("RodValue(%v, %d) = %d, %v", f, i, v, ok)
			}
		}
	}
	if v, ok := impl.RodValue(repeatedFrame(2, 5, [2]int{2, 5}, 1), 0); !ok || v != 15 {
		t.Error("greatest value of a rod", v, ok)
	}
}

func TestStandardFrames(t *testing.T) {
	for _, f := range append(shortFrames(2), longFrames()...) {
		want := true
		for _, rod := range f.Rods {
			want = want && rod[0] <= 1 && rod[1] <= 4
		}
		if y, ok := impl.IsStandard(f); !ok || y != want {
			t.Errorf("IsStandard(%v) = %v, %v", f, y, ok)
		}
	}
	// 5 and 10 are shown in more than one way.
	for text, want := range map[string]bool{"1/4 14": true, "2/5 05": false, "2/5 10": true, "2/5 15": false, "2/5 20": false, "2/5 25": false, "2/5 00 05 00": false, "1/5 05 14": false, "2/4 14 20": false} {
		f, _ := impl.ParseFrame(text)
		if y, ok := impl.IsStandard(f); !ok || y != want {
			t.Errorf("IsStandard(%s) = %v, %v", text, y, ok)
		}
	}
}

func TestSetRodsAreStandardAndTheOthersKept(t *testing.T) {
	for _, f := range append(shortFrames(2), longFrames()...) {
		for rod := range f.Rods {
			for digit := range 10 {
				want := cloneFrame(f)
				want.Rods[rod] = wantedStandard(f.Upper, f.Lower, 1, digit).Rods[0]
				g, ok := impl.SetRod(f, rod, digit)
				checkFrame(t, "SetRod", g, ok, want, true)
			}
			for _, digit := range []int{math.MinInt, -1, 10, 15, math.MaxInt} {
				g, ok := impl.SetRod(f, rod, digit)
				checkFrame(t, "SetRod to no digit", g, ok, impl.Frame{}, false)
			}
		}
		for _, rod := range []int{math.MinInt, -1, len(f.Rods), len(f.Rods) + 1, impl.MaxRods, math.MaxInt} {
			g, ok := impl.SetRod(f, rod, 0)
			checkFrame(t, "SetRod of no rod", g, ok, impl.Frame{}, false)
		}
	}
}

func TestClearedFrames(t *testing.T) {
	for _, f := range append(shortFrames(2), longFrames()...) {
		g, ok := impl.Cleared(f)
		checkFrame(t, "Cleared", g, ok, repeatedFrame(f.Upper, f.Lower, [2]int{}, len(f.Rods)), true)
	}
}

func TestTextsOfFrames(t *testing.T) {
	for _, f := range append(shortFrames(2), longFrames()...) {
		want := strconv.Itoa(f.Upper) + "/" + strconv.Itoa(f.Lower)
		for _, rod := range f.Rods {
			want += " " + strconv.Itoa(rod[0]) + strconv.Itoa(rod[1])
		}
		if s, ok := impl.FrameText(f); !ok || s != want {
			t.Errorf("FrameText(%v) = %q, %v; want %q", f, s, ok, want)
		}
		back, ok := impl.ParseFrame(want)
		checkFrame(t, "ParseFrame "+want, back, ok, f, true)
	}
	if s, ok := impl.FrameText(impl.Frame{Upper: 1, Lower: 4, Rods: [][2]int{{0, 3}, {1, 4}}}); !ok || s != "1/4 03 14" {
		t.Error("FrameText of the document's example:", s, ok)
	}
}

func TestOnlyTextsOfFramesAreParsed(t *testing.T) {
	frames := map[string]impl.Frame{}
	for _, f := range shortFrames(1) {
		s, _ := impl.FrameText(f)
		frames[s] = f
	}
	for _, s := range textsOver("01256/ ", 6) {
		f, ok := impl.ParseFrame(s)
		want, there := frames[s]
		checkFrame(t, "ParseFrame "+s, f, ok, want, there)
	}
}

func TestTextsWithOneChangedByteAreFramesOrNone(t *testing.T) {
	for _, text := range []string{"1/4 03", "2/5 25", "1/5 15 00", "2/4 00 24 10", "2/5 25 25 25 25 25 25 25 25"} {
		for i := range len(text) {
			for c := range 256 {
				changed := text[:i] + string([]byte{byte(c)}) + text[i+1:]
				f, ok := impl.ParseFrame(changed)
				if back, fine := impl.FrameText(f); ok != fine || ok && back != changed {
					t.Errorf("ParseFrame(%q) = %v, %v", changed, f, ok)
				}
				if ok && (c < '0' || c > '5') && changed != text {
					t.Errorf("ParseFrame(%q) = %v, %v", changed, f, ok)
				}
			}
		}
	}
}

func TestTextsThatLookLikeFramesAreNone(t *testing.T) {
	tooLong := "1/4" + strings.Repeat(" 00", impl.MaxRods+1)
	texts := []string{"", "1", "1/", "1/4", "1/4 ", "1/4 0", "1/4 05", "3/4 00", "0/4 00", "1/3 00", "1/6 00", "4/1 00", "1/4 00 ", " 1/4 00", "1/4  00", "1/4 00  00", "1/4 00\n", "1/4\t00", "1/4 20", "1/4 30", "2/5 35", "2/5 26", "14 00", "1/40 00", "1/400", "1-4 00",
		"1/4 000", "1/4 0 0", "1/4 0", "1/4 00 0", "1/4 00 000", "1/4 00000", "1/4 -1", "1/4 +1", "1/4 00 05", "1/4 05 00", "01/4 00", "1/04 00", "1/4/00", "1/4 00/00", "1/4,00", "a/4 00", "1/b 00", "1/4 0a", "1/4 a0", "1/4 \u0661", "1\u20444 00", "\xb1/4 00", "1/4 \xb0\xb0", "1/4 00\x00", tooLong, tooLong + " ",
		"2/5" + strings.Repeat(" 25", 5000), strings.Repeat("1/4 00", 2), strings.Repeat("0", 1<<20), "1/4" + strings.Repeat(" ", 3*impl.MaxRods)}
	for _, s := range texts {
		f, ok := impl.ParseFrame(s)
		checkFrame(t, "ParseFrame "+s[:min(len(s), 40)], f, ok, impl.Frame{}, false)
	}
	if f, ok := impl.ParseFrame("1/4" + strings.Repeat(" 00", impl.MaxRods)); !ok || len(f.Rods) != impl.MaxRods {
		t.Error("no frame with MaxRods rods")
	}
}

func TestPromise2InvalidFramesHaveZeroValues(t *testing.T) {
	for _, f := range invalidFrames() {
		if n, ok := impl.NumberOn(f); ok || n != 0 {
			t.Errorf("NumberOn of an invalid frame = %d, %v", n, ok)
		}
		if y, ok := impl.IsStandard(f); ok || y {
			t.Errorf("IsStandard of an invalid frame = %v, %v", y, ok)
		}
		if s, ok := impl.FrameText(f); ok || s != "" {
			t.Errorf("FrameText of an invalid frame = %q, %v", s, ok)
		}
		g, ok := impl.Cleared(f)
		checkFrame(t, "Cleared of an invalid frame", g, ok, impl.Frame{}, false)
		g, ok = impl.MadeStandard(f)
		checkFrame(t, "MadeStandard of an invalid frame", g, ok, impl.Frame{}, false)
		for _, rod := range []int{math.MinInt, -1, 0, 1, len(f.Rods) - 1, len(f.Rods), math.MaxInt} {
			if v, ok := impl.RodValue(f, rod); ok || v != 0 {
				t.Errorf("RodValue of an invalid frame = %d, %v", v, ok)
			}
			g, ok = impl.SetRod(f, rod, 5)
			checkFrame(t, "SetRod of an invalid frame", g, ok, impl.Frame{}, false)
		}
	}
}

// callFrameFunctions calls each function for a frame and returns the frames among the results.
func callFrameFunctions(f impl.Frame, rod, digit int) []impl.Frame {
	impl.IsFrame(f)
	impl.NumberOn(f)
	impl.RodValue(f, rod)
	impl.IsStandard(f)
	impl.FrameText(f)
	set, _ := impl.SetRod(f, rod, digit)
	cleared, _ := impl.Cleared(f)
	made, _ := impl.MadeStandard(f)
	return []impl.Frame{set, cleared, made}
}

func TestPromise29FrameFunctionsReturnForAllArguments(t *testing.T) {
	frames := append(invalidFrames(), longFrames()...)
	frames = append(frames, repeatedFrame(math.MaxInt, math.MinInt, [2]int{math.MinInt, math.MaxInt}, 1<<20))
	for _, f := range frames {
		for _, n := range []int{math.MinInt, -1, 0, 9, 10, math.MaxInt} {
			callFrameFunctions(f, n, n)
			callFrameFunctions(f, n, 0)
			callFrameFunctions(f, 0, n)
		}
	}
	for _, a := range []int{math.MinInt, -1, 0, 1, 2, math.MaxInt} {
		for _, b := range []int{math.MinInt, -1, 4, 5, math.MaxInt} {
			for _, c := range []int{math.MinInt, -1, 0, 1, 8, 9, 1 << 40, math.MaxInt} {
				for _, d := range []int{math.MinInt, -1, 0, 1 << 40, math.MaxInt} {
					impl.FrameFor(a, b, c, d)
				}
			}
		}
	}
	for _, s := range longTexts() {
		impl.ParseFrame(s)
		impl.ParseFrame("1/4" + s)
	}
	for n := range 3 * (impl.MaxRods + 2) {
		for c := range 256 {
			impl.ParseFrame(strings.Repeat(string([]byte{byte(c)}), n))
		}
	}
}

func TestPromise29FrameFunctionsModifyNothing(t *testing.T) {
	for _, text := range []string{"1/4 03 14", "2/5 00 25", "2/5 25 25", "1/5 15"} {
		f, ok := impl.ParseFrame(text)
		if !ok {
			t.Fatal("no frame:", text)
		}
		rods := len(f.Rods)
		memory := append(slices.Clone(f.Rods), [2]int{7, 7}, [2]int{-1, 9})
		before := slices.Clone(memory)
		f.Rods = memory[:rods]
		results := callFrameFunctions(f, 0, 7)
		if !slices.Equal(memory, before) {
			t.Errorf("%s: the memory of the argument is now %v", text, memory)
		}
		kept := []impl.Frame{cloneFrame(results[0]), cloneFrame(results[1]), cloneFrame(results[2])}
		for i := range memory {
			memory[i] = [2]int{5, 5}
		}
		for i := range results {
			if !sameFrame(results[i], kept[i]) {
				t.Errorf("%s: a result changed with its argument from %v to %v", text, kept[i], results[i])
			}
		}
	}
}

func TestPromise29FramesShareNoMemory(t *testing.T) {
	f, _ := impl.FrameFor(2, 5, 3, 384)
	g, _ := impl.FrameFor(2, 5, 3, 384)
	h, _ := impl.MadeStandard(g)
	p, _ := impl.ParseFrame("2/5 03 13 04")
	q, _ := impl.ParseFrame("2/5 03 13 04")
	want := cloneFrame(f)
	for i := range f.Rods {
		f.Rods[i] = [2]int{2, 5}
		p.Rods[i] = [2]int{2, 5}
	}
	for _, x := range []impl.Frame{g, h, q} {
		checkFrame(t, "frame after another one was changed", x, true, want, true)
	}
	for i := range g.Rods {
		g.Rods[i] = [2]int{2, 5}
	}
	checkFrame(t, "frame after its argument was changed", h, true, want, true)
}
