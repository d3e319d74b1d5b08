package tests

import (
	"math"
	"math/rand"
	"slices"
	"strconv"
	"strings"
	"testing"

	"loop.example/g01006/impl"
)

// What is where in a row, from which a lesson is made.
const (
	rowClass = iota
	rowTeacher
	rowRoom
	rowDay
	rowBegin
	rowMinutes
)

// lessonsOf returns lessons with the Ids 1, 2 and so on from rows of their other numbers.
func lessonsOf(rows ...[6]int) []impl.Lesson {
	list := []impl.Lesson{}
	for i, r := range rows {
		list = append(list, impl.Lesson{Id: i + 1, Class: r[rowClass], Teacher: r[rowTeacher], Room: r[rowRoom], Day: r[rowDay], Begin: r[rowBegin], Minutes: r[rowMinutes]})
	}
	return list
}

// lessonsAt returns lessons of one class, teacher and room, each at a day and a beginning and with
// some minutes.
func lessonsAt(times ...[3]int) []impl.Lesson {
	var rows [][6]int
	for _, time := range times {
		rows = append(rows, [6]int{1, 1, 1, time[0], time[1], time[2]})
	}
	return lessonsOf(rows...)
}

// apartLessons returns n lessons, nine on each day and all of them at the same time, none of which
// clash.
func apartLessons(n int) []impl.Lesson {
	var rows [][6]int
	for i := range n {
		rows = append(rows, [6]int{i%9 + 1, i + 1, i%9 + 1, i / 9, 480, 60})
	}
	return lessonsOf(rows...)
}

// withIds returns a copy of a list with other Ids.
func withIds(list []impl.Lesson, ids ...int) []impl.Lesson {
	list = slices.Clone(list)
	for i, id := range ids {
		list[i].Id = id
	}
	return list
}

// movedLesson returns a copy of a list in which the lesson at a place has a day and a beginning.
func movedLesson(list []impl.Lesson, at, day, begin int) []impl.Lesson {
	list = slices.Clone(list)
	list[at].Day, list[at].Begin = day, begin
	return list
}

// idsOfLessons returns the Ids of a list, in its order.
func idsOfLessons(list []impl.Lesson) []int {
	var ids []int
	for _, x := range list {
		ids = append(ids, x.Id)
	}
	return ids
}

// randomLessons returns a valid list of n lessons in some classes, and so on, at days up to
// lastDay and beginnings up to lastBegin, multiples of some minutes.
func randomLessons(random *rand.Rand, n, others, lastDay, lastBegin, step int) []impl.Lesson {
	var rows [][6]int
	for range n {
		begin := 480 + random.Intn((lastBegin-480)/step+1)*step
		rows = append(rows, [6]int{1 + random.Intn(min(others, 9)), 1 + random.Intn(min(others, 20)), 1 + random.Intn(min(others, 9)), random.Intn(lastDay + 1), begin, []int{30, 45, 60, 90}[random.Intn(4)]})
	}
	ids := random.Perm(99)[:n]
	slices.Sort(ids)
	for i := range ids {
		ids[i]++
	}
	return withIds(lessonsOf(rows...), ids...)
}

// lessonLists returns valid lists of all lengths, from full days with many clashes to lessons
// that are far from one another, always the same ones.
func lessonLists() [][]impl.Lesson {
	lists := [][]impl.Lesson{nil, {}, apartLessons(1), apartLessons(9), apartLessons(12)}
	random := rand.New(rand.NewSource(11))
	for i := range 720 {
		others := []int{1, 2, 4, 20}[i%4]
		lastBegin := []int{540, 700, 1140}[i/4%3]
		step := []int{1, 5, 15, 30}[i/12%4]
		lists = append(lists, randomLessons(random, i%13, others, []int{0, 1, 6}[i/48%3], lastBegin, step))
	}
	return lists
}

// wantedLesson compares each number of a lesson with what is allowed.
func wantedLesson(x impl.Lesson) bool {
	people := x.Id > 0 && x.Id < 100 && x.Class > 0 && x.Class < 10 && x.Teacher > 0 && x.Teacher < 21
	place := x.Room > 0 && x.Room < 10 && x.Day > -1 && x.Day < 7
	return people && place && x.Begin > 479 && x.Begin < 1141 && slices.Contains([]int{30, 45, 60, 90}, x.Minutes)
}

// wantedTogether looks for each minute of one lesson in the other one.
func wantedTogether(x, y impl.Lesson) bool {
	for minute := x.Begin; minute < x.Begin+x.Minutes; minute++ {
		if x.Day == y.Day && minute >= y.Begin && minute < y.Begin+y.Minutes {
			return true
		}
	}
	return false
}

func wantedClash(x, y impl.Lesson) bool {
	shared := x.Class == y.Class || x.Teacher == y.Teacher || x.Room == y.Room
	return shared && wantedTogether(x, y)
}

// wantedPairsOf returns all pairs of Ids of lessons that clash.
func wantedPairsOf(list []impl.Lesson) [][]int {
	var pairs [][]int
	for i, x := range list {
		for j, y := range list {
			if i < j && wantedClash(x, y) {
				pairs = append(pairs, []int{x.Id, y.Id})
			}
		}
	}
	return pairs
}

// canBeAt reports whether the lesson at a place of a list is valid at a day and a beginning, and
// clashes with no other one there.
func canBeAt(list []impl.Lesson, at, day, begin int) bool {
	moved := movedLesson(list, at, day, begin)
	for i, x := range moved {
		if i != at && wantedClash(x, moved[at]) {
			return false
		}
	}
	return wantedLesson(moved[at])
}

// wantedDayOf takes the lessons of a class on a day minute by minute.
func wantedDayOf(list []impl.Lesson, class, day int) []impl.Lesson {
	var held []impl.Lesson
	for minute := 480; minute <= 1140; minute++ {
		for _, x := range list {
			if x.Class == class && x.Day == day && x.Begin == minute {
				held = append(held, x)
			}
		}
	}
	return held
}

// checkLessons tests a result against the list that is wanted, or against none if there is none.
func checkLessons(t *testing.T, what string, got []impl.Lesson, ok bool, want []impl.Lesson, there bool) {
	t.Helper()
	if ok != there || there && !slices.Equal(got, want) || !there && len(got) != 0 {
		t.Errorf("%s: %v, %v; want %v, %v", what, got, ok, want, there)
	}
}

// checkRows tests lists of numbers that a function returned with true.
func checkRows(t *testing.T, what string, got [][]int, ok bool, want ...[]int) {
	t.Helper()
	if !ok || !slices.EqualFunc(got, want, slices.Equal[[]int]) {
		t.Errorf("%s: %v, %v; want %v", what, got, ok, want)
	}
}

// stopIfFailed ends a test of many lists at the first one that fails, as the others would mostly
// fail in the same way.
func stopIfFailed(t *testing.T) {
	t.Helper()
	if t.Failed() {
		t.FailNow()
	}
}

// slotText returns a day and a minute as text for a message.
func slotText(day, begin int) string {
	return "day " + strconv.Itoa(day) + " at " + strconv.Itoa(begin)
}

// checkShifted tests that a lesson can be shifted to a day and a beginning just if it may be there.
func checkShifted(t *testing.T, list []impl.Lesson, at, day, begin int) {
	t.Helper()
	got, ok := impl.ShiftLesson(list, list[at].Id, day, begin)
	checkLessons(t, "ShiftLesson to "+slotText(day, begin), got, ok, movedLesson(list, at, day, begin), canBeAt(list, at, day, begin))
}

// checkFirstSlot tests the promise: in the first slot the lesson has no new clash, and all pairs
// that still clash are of other lessons and clashed before; and there is no slot before it.
func checkFirstSlot(t *testing.T, list []impl.Lesson, at int) {
	t.Helper()
	id := list[at].Id
	day, begin, ok := impl.FirstSlot(list, id)
	if !ok || begin%15 != 0 {
		t.Fatalf("FirstSlot(%v, %d) = %d, %d, %v", list, id, day, begin, ok)
	}
	shifted, ok := impl.ShiftLesson(list, id, day, begin)
	checkLessons(t, "ShiftLesson to the first slot", shifted, ok, movedLesson(list, at, day, begin), true)
	old, _ := impl.ClashingPairs(list)
	old = slices.DeleteFunc(old, func(pair []int) bool { return slices.Contains(pair, id) })
	pairs, ok := impl.ClashingPairs(shifted)
	checkRows(t, "ClashingPairs in the first slot", pairs, ok, old...)
	for earlier := range day + 1 {
		for minute := 480; minute <= 1140 && (earlier < day || minute < begin); minute += 15 {
			if canBeAt(list, at, earlier, minute) {
				t.Fatalf("FirstSlot(%v, %d) is %s, but %s is free", list, id, slotText(day, begin), slotText(earlier, minute))
			}
		}
	}
}

func TestPromise11InTheFirstSlotIsNoNewClash(t *testing.T) {
	for _, list := range lessonLists() {
		stopIfFailed(t)
		for at := range list {
			checkFirstSlot(t, list, at)
		}
	}
}

// blockedDay returns the times of lessons that leave no time but the last beginning of a day for
// one of 90 minutes.
func blockedDay(day int) [][3]int {
	return [][3]int{{day, 540, 90}, {day, 645, 90}, {day, 810, 90}, {day, 975, 90}, {day, 1080, 60}}
}

// fullDay returns the times of lessons that leave no time of a day for one of 90 minutes.
func fullDay(day int) [][3]int {
	return [][3]int{{day, 550, 90}, {day, 720, 90}, {day, 890, 90}, {day, 1050, 90}, {day, 1140, 30}}
}

func TestPromise11KnownFirstSlots(t *testing.T) {
	// The lesson is the first of its list; its own time does not count.
	lesson := [3]int{3, 601, 90}
	for _, c := range []struct {
		what       string
		times      [][3]int
		day, begin int
	}{
		{"nothing else", [][3]int{lesson}, 0, 480},
		{"its own time", [][3]int{{0, 480, 90}}, 0, 480},
		{"its own time, which is no slot", [][3]int{{0, 481, 90}}, 0, 480},
		{"an early time is taken", [][3]int{lesson, {0, 480, 60}}, 0, 540},
		{"early times are taken", [][3]int{lesson, {0, 480, 90}, {0, 570, 45}, {0, 615, 60}}, 0, 675},
		{"the end of another one is no slot", [][3]int{lesson, {0, 481, 30}}, 0, 525},
		{"the end of another one is just past a slot", [][3]int{lesson, {0, 481, 60}}, 0, 555},
		{"the end of another one is just before a slot", [][3]int{lesson, {0, 494, 30}}, 0, 525},
		{"the minutes before another one are too few", [][3]int{lesson, {0, 569, 30}}, 0, 600},
		{"the minutes before another one are just enough", [][3]int{lesson, {0, 570, 30}}, 0, 480},
		{"a gap is just long enough", [][3]int{lesson, {0, 480, 60}, {0, 630, 60}}, 0, 540},
		{"a gap is short by a minute", [][3]int{lesson, {0, 480, 60}, {0, 629, 60}}, 0, 690},
		{"a gap is long enough, but no slot is in it", [][3]int{lesson, {0, 481, 60}, {0, 635, 60}}, 0, 705},
		{"a gap from no slot on is long enough for one", [][3]int{lesson, {0, 481, 60}, {0, 645, 60}}, 0, 555},
		{"a short lesson in a short gap", [][3]int{{5, 700, 30}, {0, 480, 30}, {0, 540, 90}}, 0, 510},
		{"only the last beginning", append([][3]int{lesson}, blockedDay(0)...), 0, 1140},
		{"the last beginning is taken, too", append([][3]int{lesson, {0, 1140, 30}}, blockedDay(0)...), 1, 480},
		{"the last beginning is taken by its last minute", append([][3]int{lesson, {0, 1111, 30}}, blockedDay(0)...), 1, 480},
		{"a later day", append([][3]int{lesson}, fullDay(0)...), 1, 480},
		{"a later time of a later day", append([][3]int{lesson, {1, 490, 30}}, fullDay(0)...), 1, 525},
		{"two full days", append(append([][3]int{lesson}, fullDay(1)...), fullDay(0)...), 2, 480},
		{"a full day and the last beginning of another one", append(append([][3]int{lesson}, blockedDay(1)...), fullDay(0)...), 1, 1140},
		{"a later day is full", append([][3]int{lesson, {0, 480, 30}}, fullDay(1)...), 0, 510},
		{"others clash with one another", [][3]int{lesson, {0, 480, 60}, {0, 480, 45}, {0, 500, 90}}, 0, 600},
	} {
		list := lessonsAt(c.times...)
		if day, begin, ok := impl.FirstSlot(list, 1); !ok || day != c.day || begin != c.begin {
			t.Errorf("%s: FirstSlot is %d, %d, %v; want %d, %d", c.what, day, begin, ok, c.day, c.begin)
		}
		checkFirstSlot(t, list, 0)
	}
}

func TestPromise11FirstSlotBesideOthers(t *testing.T) {
	for _, c := range []struct {
		other [6]int
		begin int
	}{
		{[6]int{1, 2, 2, 0, 480, 60}, 540},
		{[6]int{2, 1, 2, 0, 480, 60}, 540},
		{[6]int{2, 2, 1, 0, 480, 60}, 540},
		{[6]int{1, 1, 1, 0, 480, 60}, 540},
		{[6]int{2, 2, 2, 0, 480, 60}, 480},
		{[6]int{1, 1, 1, 1, 480, 60}, 480},
	} {
		for _, own := range [][6]int{{1, 1, 1, 6, 700, 45}, {1, 1, 1, 0, 480, 60}, {1, 1, 1, 0, 540, 60}} {
			list := lessonsOf(c.other, own)
			if day, begin, ok := impl.FirstSlot(list, 2); !ok || day != 0 || begin != c.begin {
				t.Errorf("beside %v: FirstSlot is %d, %d, %v; want 0, %d", c.other, day, begin, ok, c.begin)
			}
		}
	}
}

// timesAround are times at, just before and just after those at which a lesson touches another
// one, and the ends of a day.
func timesAround(list []impl.Lesson, minutes int) []int {
	times := []int{479, 480, 481, 1139, 1140, 1141}
	for _, x := range list {
		for _, touching := range []int{x.Begin - minutes, x.Begin, x.Begin + x.Minutes} {
			times = append(times, touching-1, touching, touching+1)
		}
	}
	return times
}

func TestPromise11ShiftedLessons(t *testing.T) {
	for i, list := range lessonLists() {
		stopIfFailed(t)
		for at, x := range list {
			for _, begin := range timesAround(list, x.Minutes) {
				for _, day := range []int{x.Day, list[i%len(list)].Day} {
					checkShifted(t, list, at, day, begin)
				}
			}
			for day := -2; day <= 8; day++ {
				checkShifted(t, list, at, day, 480+i%661)
			}
		}
	}
}

func TestPromise11KnownShifts(t *testing.T) {
	list := []impl.Lesson{
		{Id: 7, Class: 1, Teacher: 1, Room: 1, Day: 0, Begin: 600, Minutes: 60},
		{Id: 20, Class: 1, Teacher: 2, Room: 2, Day: 1, Begin: 700, Minutes: 45},
		{Id: 99, Class: 3, Teacher: 3, Room: 3, Day: 0, Begin: 600, Minutes: 90},
	}
	for _, c := range []struct {
		id, day, begin int
		ok             bool
	}{
		{20, 1, 700, true},
		{20, 0, 555, true},
		{20, 0, 556, false},
		{20, 0, 600, false},
		{20, 0, 607, false},
		{20, 0, 659, false},
		{20, 0, 660, true},
		{20, 1, 600, true},
		{20, 6, 600, true},
		{20, 0, 480, true},
		{20, 0, 479, false},
		{20, 0, 1140, true},
		{20, 0, 1141, false},
		{20, 6, 1140, true},
		{20, 7, 1140, false},
		{20, -1, 480, false},
		{7, 0, 600, true},
		{7, 0, 601, true},
		{7, 1, 640, true},
		{7, 1, 641, false},
		{7, 1, 744, false},
		{7, 1, 745, true},
		{99, 1, 700, true},
		{99, 0, 620, true},
		{98, 1, 700, false},
	} {
		at := slices.IndexFunc(list, func(x impl.Lesson) bool { return x.Id == c.id })
		got, ok := impl.ShiftLesson(list, c.id, c.day, c.begin)
		checkLessons(t, "ShiftLesson to "+slotText(c.day, c.begin), got, ok, movedLesson(list, max(at, 0), c.day, c.begin), c.ok)
	}
}

func TestPromise11ShiftsBesideClashes(t *testing.T) {
	// The first two clash, and so they do not stay where they are; the third one is free to go.
	list := lessonsOf([6]int{1, 1, 1, 0, 480, 60}, [6]int{1, 2, 2, 0, 539, 60}, [6]int{1, 1, 1, 2, 480, 60})
	for _, c := range []struct {
		at, day, begin int
		ok             bool
	}{
		{0, 0, 480, false}, {1, 0, 539, false}, {1, 0, 540, true}, {0, 0, 599, true}, {0, 0, 598, false},
		{2, 2, 480, true}, {2, 0, 599, true}, {2, 0, 598, false}, {2, 1, 480, true},
	} {
		got, ok := impl.ShiftLesson(list, c.at+1, c.day, c.begin)
		checkLessons(t, "ShiftLesson to "+slotText(c.day, c.begin), got, ok, movedLesson(list, c.at, c.day, c.begin), c.ok)
	}
}

func TestPromise11ClashingPairs(t *testing.T) {
	for _, list := range lessonLists() {
		stopIfFailed(t)
		pairs, ok := impl.ClashingPairs(list)
		checkRows(t, "ClashingPairs", pairs, ok, wantedPairsOf(list)...)
	}
}

func TestPromise11KnownClashes(t *testing.T) {
	shared := map[[3]int]bool{
		{1, 1, 1}: true, {1, 2, 2}: true, {2, 1, 2}: true, {2, 2, 1}: true,
		{1, 1, 2}: true, {1, 2, 1}: true, {2, 1, 1}: true, {2, 2, 2}: false,
	}
	for _, c := range []struct {
		x, y     [3]int
		together bool
	}{
		{[3]int{0, 480, 60}, [3]int{0, 480, 60}, true},
		{[3]int{0, 480, 30}, [3]int{0, 480, 90}, true},
		{[3]int{0, 480, 60}, [3]int{0, 540, 60}, false},
		{[3]int{0, 480, 60}, [3]int{0, 539, 60}, true},
		{[3]int{0, 480, 60}, [3]int{0, 541, 60}, false},
		{[3]int{0, 480, 90}, [3]int{0, 510, 30}, true},
		{[3]int{0, 480, 90}, [3]int{0, 540, 30}, true},
		{[3]int{0, 1140, 90}, [3]int{0, 1110, 30}, false},
		{[3]int{0, 1140, 90}, [3]int{0, 1111, 30}, true},
		{[3]int{0, 480, 60}, [3]int{1, 480, 60}, false},
		{[3]int{6, 480, 60}, [3]int{0, 480, 60}, false},
		{[3]int{6, 1140, 60}, [3]int{6, 1140, 60}, true},
		{[3]int{5, 1140, 90}, [3]int{6, 480, 60}, false},
	} {
		for others, share := range shared {
			x := [6]int{1, 1, 1, c.x[0], c.x[1], c.x[2]}
			y := [6]int{others[0], others[1], others[2], c.y[0], c.y[1], c.y[2]}
			var want [][]int
			if share && c.together {
				want = append(want, []int{1, 2})
			}
			pairs, ok := impl.ClashingPairs(lessonsOf(x, y))
			checkRows(t, "ClashingPairs", pairs, ok, want...)
			pairs, ok = impl.ClashingPairs(lessonsOf(y, x))
			checkRows(t, "ClashingPairs the other way round", pairs, ok, want...)
		}
	}
	// The numbers of a class, a teacher and a room are not the same thing.
	pairs, ok := impl.ClashingPairs(lessonsOf([6]int{1, 2, 3, 0, 480, 60}, [6]int{2, 3, 1, 0, 480, 60}, [6]int{3, 1, 2, 0, 480, 60}))
	checkRows(t, "ClashingPairs of other numbers", pairs, ok)
}

func TestPromise11SeveralClashingPairs(t *testing.T) {
	same := lessonsAt(slices.Repeat([][3]int{{2, 900, 30}}, 4)...)
	pairs, ok := impl.ClashingPairs(withIds(same, 3, 20, 21, 99))
	checkRows(t, "all clash", pairs, ok, []int{3, 20}, []int{3, 21}, []int{3, 99}, []int{20, 21}, []int{20, 99}, []int{21, 99})
	// The first one clashes with the second and the fourth one, which do not clash with each other.
	list := lessonsOf([6]int{1, 1, 1, 0, 600, 90}, [6]int{1, 2, 2, 0, 570, 45}, [6]int{4, 4, 4, 0, 600, 90}, [6]int{3, 3, 1, 0, 689, 60}, [6]int{5, 2, 5, 0, 614, 30})
	pairs, ok = impl.ClashingPairs(list)
	checkRows(t, "some clash", pairs, ok, []int{1, 2}, []int{1, 4}, []int{2, 5})
	for n := range 13 {
		pairs, ok = impl.ClashingPairs(apartLessons(n))
		checkRows(t, "none clash", pairs, ok)
	}
	pairs, ok = impl.ClashingPairs(lessonsAt(slices.Repeat([][3]int{{6, 1140, 90}}, impl.MaxLessons)...))
	if !ok || len(pairs) != 66 || !slices.Equal(pairs[0], []int{1, 2}) || !slices.Equal(pairs[65], []int{11, 12}) {
		t.Error("MaxLessons lessons at the same time:", pairs, ok)
	}
}

func TestLessonsAreValid(t *testing.T) {
	good := impl.Lesson{Id: 1, Class: 1, Teacher: 1, Room: 1, Day: 0, Begin: 480, Minutes: 30}
	numbers := numbersOutside(0, 100)
	for n := -100; n <= 1300; n++ {
		numbers = append(numbers, n)
	}
	for _, n := range numbers {
		for _, change := range []func(*impl.Lesson){
			func(x *impl.Lesson) { x.Id = n },
			func(x *impl.Lesson) { x.Class = n },
			func(x *impl.Lesson) { x.Teacher = n },
			func(x *impl.Lesson) { x.Room = n },
			func(x *impl.Lesson) { x.Day = n },
			func(x *impl.Lesson) { x.Begin = n },
			func(x *impl.Lesson) { x.Minutes = n },
		} {
			x := good
			change(&x)
			if got := impl.IsLesson(x); got != wantedLesson(x) {
				t.Errorf("IsLesson(%v) is %v", x, got)
			}
			if got := impl.AreLessons([]impl.Lesson{x}); got != wantedLesson(x) {
				t.Errorf("AreLessons of %v is %v", x, got)
			}
		}
	}
	greatest := impl.Lesson{Id: 99, Class: 9, Teacher: 20, Room: 9, Day: 6, Begin: 1140, Minutes: 90}
	if !impl.IsLesson(good) || !impl.IsLesson(greatest) || impl.IsLesson(impl.Lesson{}) || impl.MaxLessons != 12 {
		t.Error("the smallest lesson, the greatest one, the zero lesson, the limit", impl.MaxLessons)
	}
}

// invalidLessonLists are lists that differ from valid ones in just one place, and worse ones.
func invalidLessonLists() [][]impl.Lesson {
	lists := [][]impl.Lesson{{{}}, apartLessons(13), lessonsAt(slices.Repeat([][3]int{{0, 480, 30}}, 13)...), make([]impl.Lesson, 1<<12)}
	for at := range 3 {
		for _, change := range []func(*impl.Lesson){
			func(x *impl.Lesson) { x.Id = 0 },
			func(x *impl.Lesson) { x.Id = 100 },
			func(x *impl.Lesson) { x.Class = 0 },
			func(x *impl.Lesson) { x.Class = 10 },
			func(x *impl.Lesson) { x.Teacher = 0 },
			func(x *impl.Lesson) { x.Teacher = 21 },
			func(x *impl.Lesson) { x.Room = 0 },
			func(x *impl.Lesson) { x.Room = 10 },
			func(x *impl.Lesson) { x.Day = -1 },
			func(x *impl.Lesson) { x.Day = 7 },
			func(x *impl.Lesson) { x.Begin = 479 },
			func(x *impl.Lesson) { x.Begin = 1141 },
			func(x *impl.Lesson) { x.Minutes = 0 },
			func(x *impl.Lesson) { x.Minutes = 31 },
			func(x *impl.Lesson) { x.Minutes = 120 },
		} {
			list := apartLessons(3)
			change(&list[at])
			lists = append(lists, list)
		}
	}
	for _, ids := range [][]int{{2, 1}, {1, 1}, {1, 3, 2}, {2, 3, 1}, {1, 2, 2}, {99, 98}, {3, 3, 3}} {
		lists = append(lists, withIds(apartLessons(len(ids)), ids...))
	}
	return lists
}

func TestListsOfLessonsAreValid(t *testing.T) {
	for _, list := range lessonLists() {
		stopIfFailed(t)
		if !impl.AreLessons(list) {
			t.Errorf("AreLessons(%v) is false", list)
		}
	}
	for _, list := range invalidLessonLists() {
		if impl.AreLessons(list) {
			t.Errorf("%d lessons are valid: %v", len(list), list[:min(len(list), 20)])
		}
	}
	for n := range 20 {
		if ok := impl.AreLessons(apartLessons(n)); ok != (n <= 12) {
			t.Errorf("%d lessons: %v", n, ok)
		}
	}
}

func TestDaysOfClasses(t *testing.T) {
	for _, list := range lessonLists() {
		stopIfFailed(t)
		for class := 1; class <= 9; class++ {
			for day := range 7 {
				ids, ok := impl.DayOfClass(list, class, day)
				checkInts(t, "DayOfClass", ids, ok, idsOfLessons(wantedDayOf(list, class, day))...)
			}
		}
	}
}

func TestKnownDaysOfClasses(t *testing.T) {
	list := lessonsOf([6]int{2, 1, 1, 0, 900, 30}, [6]int{2, 2, 2, 0, 480, 60}, [6]int{2, 3, 3, 1, 480, 60}, [6]int{9, 3, 3, 0, 480, 60}, [6]int{2, 5, 5, 0, 900, 90}, [6]int{2, 6, 6, 0, 480, 30}, [6]int{2, 7, 7, 6, 1140, 30}, [6]int{2, 8, 8, 0, 899, 90}, [6]int{2, 9, 9, 0, 480, 90})
	for _, c := range []struct {
		class, day int
		ids        []int
	}{
		{2, 0, []int{2, 6, 9, 8, 1, 5}}, {2, 1, []int{3}}, {2, 6, []int{7}}, {2, 2, nil}, {9, 0, []int{4}}, {9, 1, nil}, {1, 0, nil}, {3, 6, nil},
	} {
		ids, ok := impl.DayOfClass(list, c.class, c.day)
		checkInts(t, "DayOfClass", ids, ok, c.ids...)
		ids, ok = impl.DayOfClass(nil, c.class, c.day)
		checkInts(t, "DayOfClass of no lessons", ids, ok)
	}
	same := lessonsAt(slices.Repeat([][3]int{{4, 777, 45}}, impl.MaxLessons)...)
	ids, ok := impl.DayOfClass(same, 1, 4)
	checkInts(t, "DayOfClass of MaxLessons", ids, ok, 1, 2, 3, 4, 5, 6, 7, 8, 9, 10, 11, 12)
	slices.Reverse(same)
	for i := range same {
		same[i].Id, same[i].Begin = i+1, 1000-i
	}
	ids, ok = impl.DayOfClass(same, 1, 4)
	checkInts(t, "DayOfClass of descending beginnings", ids, ok, 12, 11, 10, 9, 8, 7, 6, 5, 4, 3, 2, 1)
}

func TestFreeRooms(t *testing.T) {
	for i, list := range lessonLists() {
		stopIfFailed(t)
		for _, minutes := range []int{30, 45, 60, 90} {
			for _, begin := range timesAround(list, minutes) {
				day := i % 7
				if len(list) > 0 {
					day = list[begin%len(list)].Day
				}
				probe := impl.Lesson{Id: 1, Class: 1, Teacher: 1, Day: day, Begin: begin, Minutes: minutes}
				var want []int
				for probe.Room = 1; probe.Room <= 9; probe.Room++ {
					if !slices.ContainsFunc(list, func(x impl.Lesson) bool { return x.Room == probe.Room && wantedTogether(x, probe) }) {
						want = append(want, probe.Room)
					}
				}
				probe.Room = 1
				rooms, ok := impl.FreeRooms(list, day, begin, minutes)
				if !wantedLesson(probe) {
					checkNoRooms(t, list, day, begin, minutes)
				} else {
					checkInts(t, "FreeRooms "+slotText(day, begin), rooms, ok, want...)
				}
			}
		}
	}
}

// checkNoRooms tests that FreeRooms fails.
func checkNoRooms(t *testing.T, list []impl.Lesson, day, begin, minutes int) {
	t.Helper()
	if rooms, ok := impl.FreeRooms(list, day, begin, minutes); ok || len(rooms) != 0 {
		t.Errorf("FreeRooms %s for %d: %v, %v", slotText(day, begin), minutes, rooms, ok)
	}
}

func TestKnownFreeRooms(t *testing.T) {
	all := []int{1, 2, 3, 4, 5, 6, 7, 8, 9}
	// A lesson in each room but the fifth one, and two more in the third one.
	list := lessonsOf([6]int{1, 1, 9, 0, 600, 60}, [6]int{2, 2, 8, 0, 600, 60}, [6]int{3, 3, 7, 0, 600, 60}, [6]int{4, 4, 6, 0, 600, 60}, [6]int{5, 5, 4, 0, 600, 60}, [6]int{6, 6, 3, 0, 600, 60}, [6]int{7, 7, 2, 0, 600, 60}, [6]int{8, 8, 1, 0, 600, 60}, [6]int{9, 9, 3, 0, 660, 90}, [6]int{9, 9, 3, 0, 700, 30})
	for _, c := range []struct {
		day, begin, minutes int
		rooms               []int
	}{
		{0, 600, 60, []int{5}}, {0, 555, 45, all}, {0, 556, 45, []int{5}}, {0, 571, 30, []int{5}}, {0, 570, 30, all}, {0, 615, 30, []int{5}}, {0, 590, 90, []int{5}},
		{0, 659, 30, []int{5}}, {0, 660, 30, []int{1, 2, 4, 5, 6, 7, 8, 9}}, {0, 749, 90, []int{1, 2, 4, 5, 6, 7, 8, 9}}, {0, 750, 90, all}, {0, 480, 90, all}, {0, 1140, 90, all}, {1, 600, 60, all}, {6, 600, 60, all},
	} {
		rooms, ok := impl.FreeRooms(list, c.day, c.begin, c.minutes)
		checkInts(t, "FreeRooms "+slotText(c.day, c.begin), rooms, ok, c.rooms...)
		rooms, ok = impl.FreeRooms(nil, c.day, c.begin, c.minutes)
		checkInts(t, "FreeRooms beside no lessons", rooms, ok, all...)
	}
	rooms, ok := impl.FreeRooms(apartLessons(9), 0, 510, 30)
	checkInts(t, "FreeRooms where all are taken", rooms, ok)
	rooms, ok = impl.FreeRooms(apartLessons(8), 0, 510, 30)
	checkInts(t, "FreeRooms where one is left", rooms, ok, 9)
}

func TestTeacherHours(t *testing.T) {
	for _, list := range lessonLists() {
		stopIfFailed(t)
		var want [][]int
		for teacher := 1; teacher <= 20; teacher++ {
			hours := []int{teacher, 0}
			for _, x := range list {
				if x.Teacher == teacher {
					hours[1] += x.Minutes
				}
			}
			if hours[1] != 0 {
				want = append(want, hours)
			}
		}
		hours, ok := impl.TeacherHours(list)
		checkRows(t, "TeacherHours", hours, ok, want...)
	}
	hours, ok := impl.TeacherHours(nil)
	checkRows(t, "TeacherHours of no lessons", hours, ok)
	hours, ok = impl.TeacherHours(lessonsOf([6]int{1, 20, 1, 0, 480, 90}, [6]int{1, 3, 1, 0, 480, 30}, [6]int{2, 20, 2, 6, 480, 45}, [6]int{1, 1, 1, 1, 480, 60}, [6]int{1, 20, 1, 0, 480, 90}))
	checkRows(t, "TeacherHours", hours, ok, []int{1, 60}, []int{3, 30}, []int{20, 225})
	hours, ok = impl.TeacherHours(lessonsAt(slices.Repeat([][3]int{{0, 480, 90}}, impl.MaxLessons)...))
	checkRows(t, "TeacherHours of MaxLessons", hours, ok, []int{1, 1080})
}

func TestLongestGaps(t *testing.T) {
	for _, list := range lessonLists() {
		stopIfFailed(t)
		for class := 1; class <= 9; class++ {
			want := 0
			for day := range 7 {
				held := wantedDayOf(list, class, day)
				for i, x := range held[:max(len(held)-1, 0)] {
					want = max(want, held[i+1].Begin-x.Begin-x.Minutes)
				}
			}
			if n, ok := impl.LongestGap(list, class); !ok || n != want {
				t.Errorf("LongestGap(%v, %d) = %d, %v; want %d", list, class, n, ok, want)
			}
		}
	}
}

func TestKnownLongestGaps(t *testing.T) {
	for _, c := range []struct {
		what  string
		times [][3]int
		gap   int
	}{
		{"no lesson", nil, 0},
		{"one lesson", [][3]int{{0, 480, 30}}, 0},
		{"one lesson on each day", [][3]int{{0, 480, 30}, {1, 1140, 30}, {6, 600, 30}}, 0},
		{"lessons that touch", [][3]int{{0, 480, 30}, {0, 510, 30}, {0, 540, 90}}, 0},
		{"lessons that overlap", [][3]int{{0, 480, 60}, {0, 510, 60}}, 0},
		{"lessons at the same time", [][3]int{{0, 480, 60}, {0, 480, 60}}, 0},
		{"a gap of one minute", [][3]int{{0, 480, 60}, {0, 541, 60}}, 1},
		{"the longest gap that there is", [][3]int{{6, 480, 30}, {6, 1140, 90}}, 630},
		{"not in the order of time", [][3]int{{0, 900, 60}, {0, 480, 60}, {0, 700, 60}}, 160},
		{"the first of several gaps", [][3]int{{0, 480, 30}, {0, 600, 30}, {0, 640, 30}}, 90},
		{"the last of several gaps", [][3]int{{0, 480, 30}, {0, 520, 30}, {0, 640, 30}}, 90},
		{"the greatest one on another day", [][3]int{{0, 480, 30}, {0, 520, 30}, {5, 480, 30}, {5, 530, 30}, {6, 480, 30}, {6, 515, 30}}, 20},
		{"an overlap and a gap", [][3]int{{0, 480, 60}, {0, 500, 60}, {0, 600, 60}}, 40},
		// A lesson that begins at the same minute is the next one by its Id, also if it ends earlier.
		{"a gap behind the longer of two", [][3]int{{0, 480, 30}, {0, 480, 90}, {0, 600, 30}}, 30},
		{"a gap behind the shorter of two", [][3]int{{0, 480, 90}, {0, 480, 30}, {0, 600, 30}}, 90},
		{"a gap behind a lesson that lies within another one", [][3]int{{0, 480, 90}, {0, 490, 30}, {0, 600, 30}}, 80},
	} {
		list := lessonsAt(c.times...)
		if n, ok := impl.LongestGap(list, 1); !ok || n != c.gap {
			t.Errorf("%s: LongestGap is %d, %v; want %d", c.what, n, ok, c.gap)
		}
		if n, ok := impl.LongestGap(list, 2); !ok || n != 0 {
			t.Errorf("%s: LongestGap of another class is %d, %v", c.what, n, ok)
		}
	}
	// A lesson of another class does not fill a gap.
	if n, ok := impl.LongestGap(lessonsOf([6]int{9, 1, 1, 0, 480, 30}, [6]int{8, 1, 1, 0, 520, 30}, [6]int{9, 1, 1, 0, 600, 30}), 9); !ok || n != 90 {
		t.Error("LongestGap around another class:", n, ok)
	}
}

func TestTextsOfLessons(t *testing.T) {
	for i, day := range strings.Fields("mo tu we th fr sa su") {
		for begin := 480; begin <= 1140; begin++ {
			for j, minutes := range []int{30, 45, 60, 90} {
				x := impl.Lesson{Id: 1 + begin%99, Class: 1 + begin%9, Teacher: 1 + begin%20, Room: 1 + (begin+j)%9, Day: i, Begin: begin, Minutes: minutes}
				end := begin + minutes
				times := [2]string{}
				for k, minute := range []int{begin, end} {
					hour := minute / 60
					times[k] = strconv.Itoa(hour) + ":" + strconv.Itoa(100 + minute - 60*hour)[1:]
				}
				want := "class " + strconv.Itoa(x.Class) + " " + day + " " + times[0] + "-" + times[1] + " room " + strconv.Itoa(x.Room)
				if s, ok := impl.LessonText(x); !ok || s != want {
					t.Errorf("LessonText(%v) = %q, %v; want %q", x, s, ok, want)
				}
			}
		}
	}
}

func TestKnownTextsOfLessons(t *testing.T) {
	for text, row := range map[string][6]int{
		"class 2 mo 8:30-9:15 room 3":   {2, 1, 3, 0, 510, 45},
		"class 1 mo 8:00-9:00 room 1":   {1, 1, 1, 0, 480, 60},
		"class 9 su 19:00-20:30 room 9": {9, 20, 9, 6, 1140, 90},
		"class 3 tu 9:59-10:29 room 4":  {3, 2, 4, 1, 599, 30},
		"class 4 we 10:05-11:05 room 5": {4, 3, 5, 2, 605, 60},
		"class 5 th 9:09-9:54 room 6":   {5, 4, 6, 3, 549, 45},
		"class 6 fr 8:30-10:00 room 7":  {6, 5, 7, 4, 510, 90},
		"class 7 sa 12:15-13:00 room 8": {7, 6, 8, 5, 735, 45},
	} {
		if s, ok := impl.LessonText(lessonsOf(row)[0]); !ok || s != text {
			t.Errorf("LessonText(%v) = %q, %v; want %q", row, s, ok, text)
		}
	}
	for _, list := range invalidLessonLists() {
		for _, x := range list[:min(len(list), 3)] {
			if s, ok := impl.LessonText(x); ok != wantedLesson(x) || !ok && s != "" {
				t.Errorf("LessonText(%v) = %q, %v", x, s, ok)
			}
		}
	}
}

// checkNoDay tests that DayOfClass fails.
func checkNoDay(t *testing.T, list []impl.Lesson, class, day int) {
	t.Helper()
	if ids, ok := impl.DayOfClass(list, class, day); ok || len(ids) != 0 {
		t.Errorf("DayOfClass %d on %d: %v, %v", class, day, ids, ok)
	}
}

// checkNoLongestGap tests that LongestGap fails.
func checkNoLongestGap(t *testing.T, list []impl.Lesson, class int) {
	t.Helper()
	if n, ok := impl.LongestGap(list, class); ok || n != 0 {
		t.Errorf("LongestGap of %d: %d, %v", class, n, ok)
	}
}

// checkNoLesson tests that nothing is known of an Id, and no such lesson can be shifted.
func checkNoLesson(t *testing.T, list []impl.Lesson, id int) {
	t.Helper()
	for _, day := range []int{-1, 0, 6, 7} {
		for _, begin := range []int{479, 480, 900, 1140, 1141} {
			got, ok := impl.ShiftLesson(list, id, day, begin)
			checkLessons(t, "ShiftLesson "+strconv.Itoa(id), got, ok, nil, false)
		}
	}
	if day, begin, ok := impl.FirstSlot(list, id); ok || day != 0 || begin != 0 {
		t.Errorf("FirstSlot of %d: %d, %d, %v", id, day, begin, ok)
	}
}

func TestPromise11InvalidLessonsHaveZeroValues(t *testing.T) {
	for _, list := range invalidLessonLists() {
		for _, x := range list[:min(len(list), 5)] {
			checkNoLesson(t, list, x.Id)
		}
		if pairs, ok := impl.ClashingPairs(list); ok || len(pairs) != 0 {
			t.Errorf("ClashingPairs of %d lessons: %v, %v", len(list), pairs, ok)
		}
		if hours, ok := impl.TeacherHours(list); ok || len(hours) != 0 {
			t.Errorf("TeacherHours of %d lessons: %v, %v", len(list), hours, ok)
		}
		for _, class := range []int{0, 1, 2, 9, 10} {
			checkNoLongestGap(t, list, class)
			for _, day := range []int{-1, 0, 1, 6, 7} {
				checkNoDay(t, list, class, day)
			}
		}
		for _, minutes := range []int{30, 45, 60, 90} {
			checkNoRooms(t, list, 0, 480, minutes)
			checkNoRooms(t, list, 6, 1140, minutes)
		}
	}
}

func TestPromise11IdsThatAreNotInTheListHaveZeroValues(t *testing.T) {
	list := withIds(apartLessons(4), 2, 5, 50, 98)
	for _, id := range append(numbersOutside(1, 99), 0, 1, 3, 4, 6, 49, 51, 97, 99) {
		checkNoLesson(t, list, id)
		checkNoLesson(t, nil, id)
	}
	for id := 1; id <= 99; id++ {
		checkNoLesson(t, []impl.Lesson{}, id)
	}
}

func TestPromise11NumbersOutsideOfTheirRangesHaveZeroValues(t *testing.T) {
	for _, list := range [][]impl.Lesson{nil, apartLessons(1), apartLessons(12)} {
		for _, class := range append(numbersOutside(1, 9), 0) {
			checkNoLongestGap(t, list, class)
			for day := range 7 {
				checkNoDay(t, list, class, day)
			}
		}
		for _, day := range numbersOutside(0, 6) {
			for class := 1; class <= 9; class++ {
				checkNoDay(t, list, class, day)
			}
			checkNoRooms(t, list, day, 480, 30)
			checkNoRooms(t, list, day, 1140, 90)
			got, ok := impl.ShiftLesson(list, 1, day, 480)
			checkLessons(t, "ShiftLesson to no day", got, ok, nil, false)
		}
		for _, begin := range append(numbersOutside(480, 1140), 0, 465, 1155) {
			checkNoRooms(t, list, 0, begin, 60)
			got, ok := impl.ShiftLesson(list, 1, 3, begin)
			checkLessons(t, "ShiftLesson to "+slotText(3, begin), got, ok, nil, false)
		}
		for _, minutes := range append(numbersOutside(30, 90), 0, 15, 31, 44, 46, 59, 61, 75, 120) {
			checkNoRooms(t, list, 0, 480, minutes)
			checkNoRooms(t, list, 6, 1140, minutes)
		}
	}
}

// callLessonFunctions calls each function and returns the lessons, the rows and the lists of
// numbers among the results.
func callLessonFunctions(list []impl.Lesson, id, class, day, begin, minutes int) ([]impl.Lesson, [][]int, [][]int) {
	impl.AreLessons(list)
	if len(list) > 0 {
		impl.IsLesson(list[0])
		impl.LessonText(list[0])
	}
	impl.FirstSlot(list, id)
	impl.LongestGap(list, class)
	shifted, _ := impl.ShiftLesson(list, id, day, begin)
	pairs, _ := impl.ClashingPairs(list)
	hours, _ := impl.TeacherHours(list)
	ids, _ := impl.DayOfClass(list, class, day)
	rooms, _ := impl.FreeRooms(list, day, begin, minutes)
	return shifted, slices.Concat(pairs, hours), [][]int{ids, rooms}
}

func TestPromise29LessonFunctionsReturnForAllArguments(t *testing.T) {
	numbers := []int{math.MinInt, math.MinInt + 1, -1 << 32, -1, 0, 1, 6, 7, 9, 10, 30, 99, 480, 1140, 1141, 1 << 32, math.MaxInt - 1, math.MaxInt}
	lists := append(invalidLessonLists(), nil, []impl.Lesson{}, apartLessons(12), lessonsAt([3]int{0, 480, 90}, [3]int{0, 480, 90}))
	for _, n := range numbers {
		for _, m := range numbers {
			x := impl.Lesson{Id: n, Class: n, Teacher: n, Room: n, Day: n, Begin: m, Minutes: m}
			y := impl.Lesson{Id: 1, Class: 1, Teacher: 1, Room: 1, Day: 0, Begin: n, Minutes: m}
			lists = append(lists, []impl.Lesson{x}, []impl.Lesson{y}, append(apartLessons(2), x, y))
		}
	}
	for i, list := range lists {
		for j, n := range numbers {
			callLessonFunctions(list, n, n, n, n, n)
			callLessonFunctions(list, 1, 1, 0, n, numbers[(i+j)%len(numbers)])
			callLessonFunctions(list, 1, n, n, 480, 30)
		}
	}
}

func TestPromise29LessonFunctionsModifyNothing(t *testing.T) {
	for i, list := range lessonLists() {
		stopIfFailed(t)
		list, memory := longerList(list, impl.Lesson{Id: 5, Class: 77}, impl.Lesson{})
		before := slices.Clone(memory)
		for at, x := range list {
			begin := 480 + i%661
			shifted, _, _ := callLessonFunctions(list, x.Id, x.Class, x.Day, begin, 45)
			if !slices.Equal(memory, before) {
				t.Fatalf("the memory of the argument is now %v; it was %v", memory, before)
			}
			clear(memory)
			if len(shifted) > 0 {
				checkLessons(t, "the shifted lessons after their argument was changed", shifted, true, movedLesson(before[:len(list)], at, x.Day, begin), true)
			}
			copy(memory, before)
		}
	}
}

func TestPromise29LessonsBehindTheLengthAreNotRead(t *testing.T) {
	// Those behind the length are valid, clash with the first one and have all rooms.
	memory := lessonsAt(slices.Repeat([][3]int{{0, 480, 60}}, 10)...)
	for i := range memory {
		memory[i].Room = i%9 + 1
	}
	list := memory[:1]
	if !impl.AreLessons(memory) {
		t.Fatal("no lessons:", memory)
	}
	pairs, ok := impl.ClashingPairs(list)
	checkRows(t, "ClashingPairs of one", pairs, ok)
	hours, ok := impl.TeacherHours(list)
	checkRows(t, "TeacherHours of one", hours, ok, []int{1, 60})
	ids, ok := impl.DayOfClass(list, 1, 0)
	checkInts(t, "DayOfClass of one", ids, ok, 1)
	rooms, ok := impl.FreeRooms(list, 0, 480, 60)
	checkInts(t, "FreeRooms beside one", rooms, ok, 2, 3, 4, 5, 6, 7, 8, 9)
	checkShifted(t, list, 0, 0, 481)
	checkFirstSlot(t, list, 0)
	checkNoLesson(t, list, 2)
}

func TestPromise29ResultsOfLessonsShareNoMemory(t *testing.T) {
	list := lessonsOf([6]int{1, 1, 1, 0, 480, 60}, [6]int{2, 1, 2, 0, 510, 45}, [6]int{1, 2, 3, 0, 600, 30})
	before := slices.Clone(list)
	shifted, rows, lists := callLessonFunctions(list, 2, 1, 0, 540, 30)
	again, more, moreLists := callLessonFunctions(list, 2, 1, 0, 540, 30)
	all := slices.Concat(rows, more, lists, moreLists)
	if len(rows) != 3 || slices.ContainsFunc(all, func(x []int) bool { return len(x) == 0 }) {
		t.Fatal("not all calls had results", all)
	}
	checkListsApart(t, all)
	clear(shifted)
	checkLessons(t, "the shifted lessons of another call", again, true, movedLesson(before, 1, 0, 540), true)
	if !slices.Equal(list, before) {
		t.Errorf("the list changed with a result to %v", list)
	}
}
