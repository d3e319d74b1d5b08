package tests

import (
	"math"
	"slices"
	"strings"
	"testing"

	"loop.example/g01006/impl"
)

// pupilsOf returns pupils with the Ids 1, 2 and so on, each with a class and a level.
func pupilsOf(places ...[2]int) []impl.Pupil {
	list := []impl.Pupil{}
	for i, place := range places {
		list = append(list, impl.Pupil{Id: i + 1, Name: "mika", Born: 2010, Class: place[0], Level: place[1]})
	}
	return list
}

// manyPupils returns n pupils in one class with one level.
func manyPupils(n, class, level int) []impl.Pupil {
	return pupilsOf(slices.Repeat([][2]int{{class, level}}, n)...)
}

// joinedPupils puts lists of pupils one behind the other and numbers them anew.
func joinedPupils(lists ...[]impl.Pupil) []impl.Pupil {
	all := slices.Concat(lists...)
	for i := range all {
		all[i].Id = i + 1
	}
	return all
}

// placesOver returns all pairs of some classes and levels.
func placesOver(classes, levels []int) [][2]int {
	var all [][2]int
	for _, class := range classes {
		for _, level := range levels {
			all = append(all, [2]int{class, level})
		}
	}
	return all
}

// shortPupilLists returns all valid lists of 1..most pupils with some classes and levels.
func shortPupilLists(most int, classes, levels []int) [][]impl.Pupil {
	var valid [][]impl.Pupil
	lists := [][][2]int{{}}
	for range most {
		var longer [][][2]int
		for _, places := range lists {
			for _, place := range placesOver(classes, levels) {
				longer = append(longer, append(slices.Clip(places), place))
			}
		}
		lists = longer
		for _, places := range lists {
			if list := pupilsOf(places...); wantedPupils(list) {
				valid = append(valid, list)
			}
		}
	}
	return valid
}

// longPupilLists are lists at the limits: full classes, and levels just near enough.
func longPupilLists() [][]impl.Pupil {
	lists := [][]impl.Pupil{{}, manyPupils(impl.MaxPupils, 0, 0), manyPupils(impl.MaxPupils, 0, 10)}
	for n := 4; n <= 6; n++ {
		for _, level := range []int{3, 6, 7, 10} {
			for _, class := range []int{1, 2, 9} {
				lists = append(lists,
					joinedPupils(manyPupils(n, class, level), manyPupils(12-n, 0, level)),
					joinedPupils(manyPupils(6, 0, level-3), manyPupils(n, class, level)),
					joinedPupils(manyPupils(n-1, class, level), manyPupils(1, class, level-3), pupilsOf([2]int{0, level}, [2]int{0, level - 1}, [2]int{5, level})),
					joinedPupils(manyPupils(6, class, level), manyPupils(n, 4, level), manyPupils(6-n, 0, level)))
			}
		}
	}
	// A place in each class is left for none of the levels 0 and 10, or only for one of them.
	var low, both [][2]int
	for class := 1; class <= 9; class++ {
		low = append(low, [2]int{class, 3})
		both = append(both, [2]int{class, 10 * (class % 2)})
	}
	for _, places := range [][][2]int{low, both, low[:8], both[1:]} {
		lists = append(lists, pupilsOf(append(slices.Clip(places), [2]int{0, 10}, [2]int{0, 0}, [2]int{0, 6})...),
			pupilsOf(append([][2]int{{0, 7}, {0, 3}, {0, 4}}, places...)...))
	}
	return lists
}

// allPupilLists returns short and long lists, all of them valid.
func allPupilLists(t *testing.T) [][]impl.Pupil {
	t.Helper()
	lists := shortPupilLists(3, []int{0, 1, 9}, []int{0, 3, 4, 7, 10})
	for _, list := range longPupilLists() {
		if !wantedPupils(list) {
			t.Fatal("no pupils:", list)
		}
		lists = append(lists, list)
	}
	return lists
}

// wantedPupil compares each part of a pupil with what is allowed.
func wantedPupil(p impl.Pupil) bool {
	letters := strings.Trim(p.Name, "abcdefghijklmnopqrstuvwxyz") == ""
	name := letters && p.Name != "" && len(p.Name) < 11
	return name && p.Id > 0 && p.Id < 1000 && p.Born > 1899 && p.Born < 2101 && p.Class > -1 && p.Class < 10 && p.Level > -1 && p.Level < 11
}

// wantedPupils compares all pairs of pupils of the same class.
func wantedPupils(list []impl.Pupil) bool {
	if len(list) > 12 {
		return false
	}
	var count [10]int
	for i, p := range list {
		if !wantedPupil(p) {
			return false
		}
		count[p.Class]++
		if p.Class != 0 && count[p.Class] == 7 {
			return false
		}
		for _, q := range list[:i] {
			if q.Id >= p.Id || p.Class != 0 && q.Class == p.Class && (q.Level-p.Level > 3 || p.Level-q.Level > 3) {
				return false
			}
		}
	}
	return true
}

// pupilsWith returns a copy of a list in which the pupil at a place has a class.
func pupilsWith(list []impl.Pupil, at, class int) []impl.Pupil {
	list = slices.Clone(list)
	list[at].Class = class
	return list
}

// checkPupils tests a result against the list that is wanted, or against none if there is none.
func checkPupils(t *testing.T, what string, got []impl.Pupil, ok bool, want []impl.Pupil, there bool) {
	t.Helper()
	if ok != there || there && !slices.Equal(got, want) || !there && len(got) != 0 {
		t.Errorf("%s: %v, %v; want %v, %v", what, got, ok, want, there)
	}
}

// checkInts tests a list of numbers that a function returned with true.
func checkInts(t *testing.T, what string, got []int, ok bool, want ...int) {
	t.Helper()
	if !ok || !slices.Equal(got, want) {
		t.Errorf("%s: %v, %v; want %v", what, got, ok, want)
	}
}

func TestPromise3PupilsCanGoToJustTheToldClasses(t *testing.T) {
	for _, list := range allPupilLists(t) {
		for at, p := range list {
			told, ok := impl.ClassesFor(list, p.Id)
			var want []int
			for class := -1; class <= 11; class++ {
				changed := pupilsWith(list, at, class)
				there := wantedPupils(changed)
				got, fine := impl.PutInClass(list, p.Id, class)
				checkPupils(t, "PutInClass", got, fine, changed, there)
				if there && class != 0 {
					want = append(want, class)
				}
				if class != 0 && fine != slices.Contains(told, class) {
					t.Errorf("%v: %d is told the classes %v, but can go to %d: %v", list, p.Id, told, class, fine)
				}
			}
			checkInts(t, "ClassesFor", told, ok, want...)
			if p.Class != 0 && !slices.Contains(told, p.Class) {
				t.Errorf("%v: %d is not told its own class", list, p.Id)
			}
			for _, class := range []int{math.MinInt, -1 << 32, 1 << 32, math.MaxInt} {
				got, fine := impl.PutInClass(list, p.Id, class)
				checkPupils(t, "PutInClass of no class", got, fine, nil, false)
			}
		}
	}
}

func TestPromise3FullClasses(t *testing.T) {
	one := pupilsOf([2]int{0, 5})
	five := joinedPupils(manyPupils(5, 3, 5), one)
	x, ok := impl.ClassesFor(five, 6)
	checkInts(t, "a class with 5", x, ok, 1, 2, 3, 4, 5, 6, 7, 8, 9)
	list, ok := impl.PutInClass(five, 6, 3)
	checkPupils(t, "the sixth", list, ok, manyPupils(6, 3, 5), true)

	six := joinedPupils(manyPupils(6, 3, 5), one)
	x, ok = impl.ClassesFor(six, 7)
	checkInts(t, "a class with 6", x, ok, 1, 2, 4, 5, 6, 7, 8, 9)
	list, ok = impl.PutInClass(six, 7, 3)
	checkPupils(t, "the seventh", list, ok, nil, false)
	// One of a full class can stay in it.
	x, ok = impl.ClassesFor(six, 6)
	checkInts(t, "one of 6", x, ok, 1, 2, 3, 4, 5, 6, 7, 8, 9)
	list, ok = impl.PutInClass(six, 6, 3)
	checkPupils(t, "one of 6 that stays", list, ok, six, true)

	two := joinedPupils(manyPupils(6, 1, 5), manyPupils(6, 9, 5))
	x, ok = impl.ClassesFor(two, 12)
	checkInts(t, "two full classes", x, ok, 2, 3, 4, 5, 6, 7, 8, 9)
	// Any number can be without a class.
	for id := range 12 {
		if two, ok = impl.PutInClass(two, id+1, 0); !ok {
			t.Error("cannot leave the class:", id+1)
		}
	}
	checkPupils(t, "all without a class", two, true, manyPupils(12, 0, 5), true)
}

func TestPromise3LevelsJustNearEnough(t *testing.T) {
	for low := 0; low <= 10; low++ {
		for level := 0; level <= 10; level++ {
			list := pupilsOf([2]int{5, low}, [2]int{0, level})
			want := []int{1, 2, 3, 4, 5, 6, 7, 8, 9}
			near := level <= low+3 && low <= level+3
			if !near {
				want = []int{1, 2, 3, 4, 6, 7, 8, 9}
			}
			x, ok := impl.ClassesFor(list, 2)
			checkInts(t, "one other", x, ok, want...)
			got, ok := impl.PutInClass(list, 2, 5)
			checkPupils(t, "one other", got, ok, pupilsWith(list, 1, 5), near)
		}
	}
	// All of the class count, not only its first or last one.
	for level := 0; level <= 10; level++ {
		for _, places := range [][][2]int{{{5, 4}, {5, 6}, {0, level}}, {{5, 6}, {5, 4}, {0, level}}, {{0, level}, {5, 5}, {5, 4}, {5, 6}, {5, 5}}} {
			list := pupilsOf(places...)
			at := slices.IndexFunc(list, func(p impl.Pupil) bool { return p.Class == 0 })
			got, ok := impl.PutInClass(list, at+1, 5)
			checkPupils(t, "several others", got, ok, pupilsWith(list, at, 5), level >= 3 && level <= 7)
		}
	}
}

func TestPromise3PupilsWithoutToldClasses(t *testing.T) {
	var places [][2]int
	for class := 1; class <= 9; class++ {
		places = append(places, [2]int{class, 6})
	}
	list := pupilsOf(append(places, [2]int{0, 10}, [2]int{0, 2}, [2]int{0, 9})...)
	for id, want := range map[int][]int{10: {}, 11: {}, 12: {1, 2, 3, 4, 5, 6, 7, 8, 9}, 4: {1, 2, 3, 4, 5, 6, 7, 8, 9}} {
		x, ok := impl.ClassesFor(list, id)
		checkInts(t, "classes at the level 6", x, ok, want...)
	}
	got, left, ok := impl.PlaceAll(list)
	checkPupils(t, "PlaceAll", got, ok, pupilsWith(list, 11, 1), true)
	if left != 2 {
		t.Error("left without a class:", left)
	}
}

// wantedPlaced tries the classes for each pupil without one, and counts those that are left.
func wantedPlaced(list []impl.Pupil) ([]impl.Pupil, int) {
	left := 0
	for at, p := range list {
		if p.Class != 0 {
			continue
		}
		class := 1
		for class < 10 && !wantedPupils(pupilsWith(list, at, class)) {
			class++
		}
		if class == 10 {
			left++
		} else {
			list = pupilsWith(list, at, class)
		}
	}
	return list, left
}

func TestPromise3AllArePlaced(t *testing.T) {
	for _, list := range allPupilLists(t) {
		want, wantLeft := wantedPlaced(list)
		got, left, ok := impl.PlaceAll(list)
		checkPupils(t, "PlaceAll", got, ok, want, true)
		if left != wantLeft {
			t.Errorf("PlaceAll(%v) leaves %d; want %d", list, left, wantLeft)
		}
		again, stillLeft, ok := impl.PlaceAll(got)
		checkPupils(t, "PlaceAll again", again, ok, want, true)
		if stillLeft != wantLeft {
			t.Errorf("PlaceAll(%v) again leaves %d; want %d", list, stillLeft, wantLeft)
		}
	}
}

func TestPromise3KnownPlaces(t *testing.T) {
	for _, c := range []struct {
		places  [][2]int
		classes []int
		left    int
	}{
		{nil, []int{}, 0},
		{[][2]int{{0, 10}}, []int{1}, 0},
		// Each one that is placed counts for the next one.
		{[][2]int{{0, 0}, {0, 4}, {0, 3}, {0, 7}, {0, 8}}, []int{1, 2, 1, 2, 3}, 0},
		{[][2]int{{0, 10}, {0, 6}, {0, 7}, {0, 3}}, []int{1, 2, 1, 2}, 0},
		// The seventh of a level goes to the next class.
		{slices.Repeat([][2]int{{0, 5}}, 12), []int{1, 1, 1, 1, 1, 1, 2, 2, 2, 2, 2, 2}, 0},
		{[][2]int{{1, 5}, {1, 5}, {0, 5}, {1, 5}, {1, 5}, {1, 5}, {0, 5}}, []int{1, 1, 1, 1, 1, 1, 2}, 0},
		// Those who go to a class stay there, even if a smaller one is empty.
		{[][2]int{{9, 5}, {0, 1}, {0, 5}, {2, 5}}, []int{9, 1, 2, 2}, 0},
		{[][2]int{{1, 0}, {2, 0}, {3, 0}, {4, 0}, {5, 0}, {6, 0}, {7, 0}, {8, 0}, {0, 10}, {0, 5}, {0, 7}, {0, 6}}, []int{1, 2, 3, 4, 5, 6, 7, 8, 9, 0, 9, 0}, 2},
		{[][2]int{{0, 4}, {1, 0}, {2, 0}, {3, 0}, {4, 0}, {5, 0}, {6, 0}, {7, 0}, {8, 0}, {9, 0}, {0, 3}}, []int{0, 1, 2, 3, 4, 5, 6, 7, 8, 9, 1}, 1},
	} {
		want := pupilsOf(c.places...)
		for i, class := range c.classes {
			want[i].Class = class
		}
		got, left, ok := impl.PlaceAll(pupilsOf(c.places...))
		checkPupils(t, "PlaceAll", got, ok, want, true)
		if left != c.left {
			t.Errorf("PlaceAll of %v leaves %d; want %d", c.places, left, c.left)
		}
	}
}

func TestRaisedLevels(t *testing.T) {
	for _, list := range allPupilLists(t) {
		for at, p := range list {
			want := slices.Clone(list)
			want[at].Level++
			if !wantedPupils(want) {
				want[at].Class = 0
			}
			got, ok := impl.RaiseLevel(list, p.Id)
			checkPupils(t, "RaiseLevel", got, ok, want, p.Level < 10)
			if ok && !impl.ArePupils(got) {
				t.Error("raised to an invalid list:", got)
			}
		}
	}
}

func TestKnownRaisedLevels(t *testing.T) {
	for _, c := range []struct {
		places       [][2]int
		class, level int
	}{
		{[][2]int{{1, 5}, {1, 3}}, 1, 6},
		{[][2]int{{1, 6}, {1, 3}}, 0, 7},
		{[][2]int{{1, 6}, {2, 3}}, 1, 7},
		{[][2]int{{0, 6}, {0, 1}}, 0, 7},
		{[][2]int{{1, 9}}, 1, 10},
		{[][2]int{{1, 9}, {1, 7}}, 1, 10},
		{[][2]int{{1, 9}, {1, 6}}, 0, 10},
		{[][2]int{{1, 3}, {1, 6}}, 1, 4},
		{[][2]int{{1, 6}, {1, 6}, {1, 6}, {1, 6}, {1, 6}, {1, 3}}, 0, 7},
		{[][2]int{{1, 5}, {1, 3}, {1, 3}, {1, 3}, {1, 3}, {1, 3}}, 1, 6},
		{[][2]int{{0, 0}}, 0, 1},
	} {
		want := pupilsOf(c.places...)
		want[0].Class, want[0].Level = c.class, c.level
		got, ok := impl.RaiseLevel(pupilsOf(c.places...), 1)
		checkPupils(t, "RaiseLevel", got, ok, want, true)
	}
	for _, places := range [][][2]int{{{1, 10}}, {{0, 10}}, {{1, 10}, {1, 7}}, {{0, 10}, {0, 0}}} {
		got, ok := impl.RaiseLevel(pupilsOf(places...), 1)
		checkPupils(t, "RaiseLevel of the greatest one", got, ok, nil, false)
	}
}

func TestSwappedClasses(t *testing.T) {
	for _, list := range allPupilLists(t) {
		for i, p := range list {
			for j, q := range list {
				want := pupilsWith(pupilsWith(list, i, q.Class), j, p.Class)
				got, ok := impl.SwapClasses(list, p.Id, q.Id)
				checkPupils(t, "SwapClasses", got, ok, want, i != j && wantedPupils(want))
			}
		}
	}
}

func TestKnownSwappedClasses(t *testing.T) {
	for _, c := range []struct {
		places [][2]int
		ok     bool
	}{
		{[][2]int{{1, 0}, {2, 10}}, true},
		{[][2]int{{0, 0}, {2, 10}}, true},
		{[][2]int{{0, 0}, {0, 10}}, true},
		{[][2]int{{1, 3}, {1, 6}}, true},
		{[][2]int{{1, 3}, {2, 6}, {1, 6}}, true},
		{[][2]int{{1, 6}, {2, 2}, {1, 6}}, false},
		{[][2]int{{1, 3}, {2, 6}, {1, 3}, {2, 6}}, true},
		{[][2]int{{1, 3}, {2, 6}, {1, 2}, {2, 6}}, false},
		{[][2]int{{1, 3}, {2, 6}, {1, 3}, {2, 7}}, false},
		{[][2]int{{1, 3}, {2, 6}, {3, 0}, {3, 3}}, true},
		// Two full classes stay full.
		{[][2]int{{1, 5}, {2, 5}, {1, 5}, {1, 5}, {1, 5}, {1, 5}, {1, 5}, {2, 5}, {2, 5}, {2, 5}, {2, 5}, {2, 5}}, true},
		{[][2]int{{1, 5}, {0, 5}, {1, 5}, {1, 5}, {1, 5}, {1, 5}, {1, 5}}, true},
		// Each of both can go only after the other one has gone.
		{[][2]int{{1, 3}, {2, 7}}, true},
	} {
		list := pupilsOf(c.places...)
		want := pupilsWith(pupilsWith(list, 0, list[1].Class), 1, list[0].Class)
		got, ok := impl.SwapClasses(list, 1, 2)
		checkPupils(t, "SwapClasses", got, ok, want, c.ok)
		got, ok = impl.SwapClasses(list, 2, 1)
		checkPupils(t, "SwapClasses the other way round", got, ok, want, c.ok)
		for _, id := range []int{1, 2} {
			got, ok = impl.SwapClasses(list, id, id)
			checkPupils(t, "SwapClasses with itself", got, ok, nil, false)
		}
	}
}

func TestPupilsAreValid(t *testing.T) {
	good := impl.Pupil{Id: 1, Name: "aki", Born: 2010, Class: 1, Level: 3}
	for _, n := range []int{math.MinInt, -1 << 32, -1, 0, 1, 2, 8, 9, 10, 11, 12, 998, 999, 1000, 1001, 1899, 1900, 1901, 2099, 2100, 2101, 1 << 32, math.MaxInt} {
		id, born, class, level := good, good, good, good
		id.Id, born.Born, class.Class, level.Level = n, n, n, n
		for _, p := range []impl.Pupil{id, born, class, level} {
			if got := impl.IsPupil(p); got != wantedPupil(p) {
				t.Errorf("IsPupil(%v) is %v", p, got)
			}
			if got := impl.ArePupils([]impl.Pupil{p}); got != wantedPupil(p) {
				t.Errorf("ArePupils of %v is %v", p, got)
			}
		}
	}
	if !impl.IsPupil(good) || impl.IsPupil(impl.Pupil{}) || impl.MaxPupils != 12 {
		t.Error("a pupil, the zero pupil, the limit", impl.MaxPupils)
	}
}

func TestNamesOfPupilsAreWords(t *testing.T) {
	words := []string{"a", "z", "aki", "zzzzzzzzzz", "abcdefghij", "nopqrstuvw"}
	others := []string{"", "abcdefghijk", "Aki", "aKi", "akI", "aki ", " aki", "a ki", "aki1", "a-b", "a\x00", "\xffa", "\u00e4", "a\u0301", "\u0430", "`", "{", "a`", "{a", strings.Repeat("a", 1<<20)}
	for c := range 256 {
		for _, s := range []string{string([]byte{byte(c)}), string([]byte{'a', byte(c)}), string([]byte{byte(c), 'z', 'z'})} {
			if c >= 'a' && c <= 'z' {
				words = append(words, s)
			} else {
				others = append(others, s)
			}
		}
	}
	for _, s := range words {
		if !impl.IsPupil(impl.Pupil{Id: 1, Name: s, Born: 2000}) {
			t.Errorf("a pupil cannot have the name %q", s)
		}
	}
	for _, s := range others {
		if impl.IsPupil(impl.Pupil{Id: 1, Name: s, Born: 2000}) {
			t.Errorf("a pupil can have the name %q", s[:min(len(s), 20)])
		}
	}
}

func TestListsOfPupilsAreValid(t *testing.T) {
	for _, list := range append(allPupilLists(t), nil) {
		if !impl.ArePupils(list) {
			t.Errorf("ArePupils(%v) is false", list)
		}
	}
	for _, list := range invalidPupilLists() {
		if impl.ArePupils(list) {
			t.Errorf("%d pupils are valid: %v", len(list), list[:min(len(list), 20)])
		}
	}
	for n := range 20 {
		if ok := impl.ArePupils(manyPupils(n, 0, 5)); ok != (n <= 12) {
			t.Errorf("%d pupils without a class: %v", n, ok)
		}
		for class := 1; class <= 9; class++ {
			if ok := impl.ArePupils(manyPupils(n, class, 5)); ok != (n <= 6) {
				t.Errorf("%d pupils in the class %d: %v", n, class, ok)
			}
		}
	}
}

// invalidPupilLists are lists that differ from valid ones in just one place, and worse ones.
func invalidPupilLists() [][]impl.Pupil {
	lists := [][]impl.Pupil{{{}}, manyPupils(13, 0, 5), manyPupils(1<<16, 0, 5), manyPupils(7, 9, 5), joinedPupils(manyPupils(5, 0, 5), manyPupils(7, 1, 5))}
	for at := range 3 {
		for _, change := range []func(*impl.Pupil){
			func(p *impl.Pupil) { p.Id = 0 },
			func(p *impl.Pupil) { p.Id = 1000 },
			func(p *impl.Pupil) { p.Name = "" },
			func(p *impl.Pupil) { p.Name = "abcdefghijk" },
			func(p *impl.Pupil) { p.Name = "Aki" },
			func(p *impl.Pupil) { p.Born = 1899 },
			func(p *impl.Pupil) { p.Born = 2101 },
			func(p *impl.Pupil) { p.Class = -1 },
			func(p *impl.Pupil) { p.Class = 10 },
			func(p *impl.Pupil) { p.Level = -1 },
			func(p *impl.Pupil) { p.Level = 11 },
			func(p *impl.Pupil) { p.Class, p.Level = 5, 8 },
			func(p *impl.Pupil) { p.Class, p.Level = 5, 0 },
		} {
			list := pupilsOf([2]int{0, 4}, [2]int{0, 4}, [2]int{0, 4}, [2]int{5, 4})
			change(&list[at])
			lists = append(lists, list)
		}
	}
	for _, ids := range [][]int{{2, 1}, {1, 1}, {1, 3, 2}, {2, 3, 1}, {1, 2, 2}, {999, 998}, {3, 3, 3}} {
		list := manyPupils(len(ids), 0, 4)
		for i, id := range ids {
			list[i].Id = id
		}
		lists = append(lists, list)
	}
	return lists
}

// schoolPupils are pupils in classes of different sizes and without one.
func schoolPupils() []impl.Pupil {
	return []impl.Pupil{
		{Id: 1, Name: "aki", Born: 2010, Class: 1, Level: 3},
		{Id: 2, Name: "ben", Born: 2009, Class: 0, Level: 10},
		{Id: 5, Name: "chen", Born: 2009, Class: 9, Level: 0},
		{Id: 7, Name: "aki", Born: 2008, Class: 1, Level: 6},
		{Id: 100, Name: "ben", Born: 2009, Class: 0, Level: 1},
		{Id: 101, Name: "dora", Born: 1900, Class: 4, Level: 5},
		{Id: 300, Name: "aki", Born: 2008, Class: 1, Level: 5},
		{Id: 301, Name: "aki", Born: 2100, Class: 4, Level: 7},
		{Id: 998, Name: "chen", Born: 2012, Class: 0, Level: 1},
		{Id: 999, Name: "ab", Born: 2009, Class: 9, Level: 0},
	}
}

func TestIdsInClasses(t *testing.T) {
	list := schoolPupils()
	for class, want := range [][]int{{2, 100, 998}, {1, 7, 300}, {}, {}, {101, 301}, {}, {}, {}, {}, {5, 999}} {
		x, ok := impl.InClass(list, class)
		checkInts(t, "InClass", x, ok, want...)
		x, ok = impl.InClass(nil, class)
		checkInts(t, "InClass of no pupils", x, ok)
	}
	x, ok := impl.InClass(manyPupils(12, 0, 3), 0)
	checkInts(t, "InClass of MaxPupils", x, ok, 1, 2, 3, 4, 5, 6, 7, 8, 9, 10, 11, 12)
	for _, class := range []int{math.MinInt, -1, 10, 11, 1 << 32, math.MaxInt} {
		if x, ok := impl.InClass(list, class); ok || len(x) != 0 {
			t.Errorf("InClass of %d: %v, %v", class, x, ok)
		}
	}
}

func TestMeanLevels(t *testing.T) {
	for class, want := range [][2]int{{4, 1}, {14, 3}, {}, {}, {6, 1}, {}, {}, {}, {}, {0, 1}} {
		num, den, ok := impl.MeanLevel(schoolPupils(), class)
		if ok != (want[1] != 0) || num != want[0] || den != want[1] {
			t.Errorf("MeanLevel of %d: %d/%d, %v; want %v", class, num, den, ok, want)
		}
		if num, den, ok = impl.MeanLevel(nil, class); ok || num != 0 || den != 0 {
			t.Errorf("MeanLevel of no pupils: %d/%d, %v", num, den, ok)
		}
	}
	for _, class := range []int{math.MinInt, -1, 10, 1 << 32, math.MaxInt} {
		if num, den, ok := impl.MeanLevel(schoolPupils(), class); ok || num != 0 || den != 0 {
			t.Errorf("MeanLevel of %d: %d/%d, %v", class, num, den, ok)
		}
	}
	for _, list := range allPupilLists(t) {
		for class := range 10 {
			checkMeanLevel(t, list, class)
		}
	}
}

// checkMeanLevel tests that the mean times the number of pupils is the sum of their levels, and
// that no number goes into both of the fraction.
func checkMeanLevel(t *testing.T, list []impl.Pupil, class int) {
	t.Helper()
	count, sum := 0, 0
	for _, p := range list {
		if p.Class == class {
			count++
			sum += p.Level
		}
	}
	num, den, ok := impl.MeanLevel(list, class)
	if ok != (count > 0) || !ok && (num != 0 || den != 0) || ok && (den < 1 || num*count != sum*den) {
		t.Errorf("MeanLevel(%v, %d) = %d/%d, %v", list, class, num, den, ok)
	}
	for n := 2; ok && n <= den; n++ {
		if num%n == 0 && den%n == 0 {
			t.Errorf("MeanLevel(%v, %d) = %d/%d is not in lowest terms", list, class, num, den)
		}
	}
}

func TestOldestPupils(t *testing.T) {
	for class, want := range []int{2, 7, 0, 0, 101, 0, 0, 0, 0, 5} {
		if id, ok := impl.OldestOf(schoolPupils(), class); ok != (want != 0) || id != want {
			t.Errorf("OldestOf %d is %d, %v; want %d", class, id, ok, want)
		}
		if id, ok := impl.OldestOf(nil, class); ok || id != 0 {
			t.Errorf("OldestOf no pupils is %d, %v", id, ok)
		}
	}
	for _, class := range []int{math.MinInt, -1, 10, 1 << 32, math.MaxInt} {
		if id, ok := impl.OldestOf(schoolPupils(), class); ok || id != 0 {
			t.Errorf("OldestOf %d is %d, %v", class, id, ok)
		}
	}
	// All years are equal, or the last or the middle ones are the smallest.
	for _, c := range []struct {
		years  []int
		oldest int
	}{
		{[]int{2000, 2000, 2000, 2000}, 1},
		{[]int{2100, 2100, 2099, 1900}, 4},
		{[]int{2001, 2000, 2000, 2001}, 2},
		{[]int{1900, 1900, 1901, 1900}, 1},
	} {
		list := manyPupils(4, 6, 3)
		for i, year := range c.years {
			list[i].Born = year
		}
		if id, ok := impl.OldestOf(list, 6); !ok || id != c.oldest {
			t.Errorf("OldestOf those born in %v is %d, %v; want %d", c.years, id, ok, c.oldest)
		}
	}
}

func TestPupilsWithTheSameNames(t *testing.T) {
	for names, want := range map[string][][]int{
		"":                                 {},
		"a":                                {},
		"a b c":                            {},
		"a a":                              {{1, 2}},
		"a b a":                            {{1, 3}},
		"b a b a":                          {{1, 3}, {2, 4}},
		"b a a b":                          {{1, 4}, {2, 3}},
		"c b a a b d":                      {{2, 5}, {3, 4}},
		"a ab abc ab a":                    {{1, 5}, {2, 4}},
		"a b c a b c a b c a b c":          {{1, 4, 7, 10}, {2, 5, 8, 11}, {3, 6, 9, 12}},
		"a a a a a a a a a a a a":          {{1, 2, 3, 4, 5, 6, 7, 8, 9, 10, 11, 12}},
		"l k j i h g g h i j k l":          {{1, 12}, {2, 11}, {3, 10}, {4, 9}, {5, 8}, {6, 7}},
		"abcdefghij abcdefghii abcdefghij": {{1, 3}},
	} {
		words := strings.Fields(names)
		list := manyPupils(len(words), 0, 5)
		for i, word := range words {
			list[i].Name = word
		}
		if got, ok := impl.SameNames(list); !ok || !slices.EqualFunc(got, want, slices.Equal[[]int]) {
			t.Errorf("SameNames of %q: %v, %v; want %v", names, got, ok, want)
		}
	}
	// The classes do not count, and neither do the Ids that are left out.
	want := [][]int{{1, 7, 300, 301}, {2, 100}, {5, 998}}
	if got, ok := impl.SameNames(schoolPupils()); !ok || !slices.EqualFunc(got, want, slices.Equal[[]int]) {
		t.Errorf("SameNames: %v, %v; want %v", got, ok, want)
	}
}

// checkNoPupils tests that all functions fail for a list and two Ids, which are not both in it.
func checkNoPupils(t *testing.T, list []impl.Pupil, a, b int) {
	t.Helper()
	shown := list[:min(len(list), 20)]
	for _, class := range []int{-1, 0, 1, 5, 9, 10} {
		got, ok := impl.PutInClass(list, a, class)
		checkPupils(t, "PutInClass", got, ok, nil, false)
	}
	got, ok := impl.RaiseLevel(list, a)
	checkPupils(t, "RaiseLevel", got, ok, nil, false)
	if x, ok := impl.ClassesFor(list, a); ok || len(x) != 0 {
		t.Errorf("ClassesFor(%v, %d) = %v, %v", shown, a, x, ok)
	}
	got, ok = impl.SwapClasses(list, a, b)
	checkPupils(t, "SwapClasses", got, ok, nil, false)
	got, ok = impl.SwapClasses(list, b, a)
	checkPupils(t, "SwapClasses", got, ok, nil, false)
}

func TestPromise3InvalidPupilsHaveZeroValues(t *testing.T) {
	for _, list := range invalidPupilLists() {
		shown := list[:min(len(list), 20)]
		checkNoPupils(t, list, 1, 2)
		checkNoPupils(t, list, list[0].Id, list[len(list)-1].Id)
		for _, class := range []int{-1, 0, 1, 5, 9, 10} {
			if x, ok := impl.InClass(list, class); ok || len(x) != 0 {
				t.Errorf("InClass(%v, %d) = %v, %v", shown, class, x, ok)
			}
			if num, den, ok := impl.MeanLevel(list, class); ok || num != 0 || den != 0 {
				t.Errorf("MeanLevel(%v, %d) = %d/%d, %v", shown, class, num, den, ok)
			}
			if id, ok := impl.OldestOf(list, class); ok || id != 0 {
				t.Errorf("OldestOf(%v, %d) = %d, %v", shown, class, id, ok)
			}
		}
		if got, left, ok := impl.PlaceAll(list); ok || left != 0 || len(got) != 0 {
			t.Errorf("PlaceAll(%v) = %v, %d, %v", shown, got, left, ok)
		}
		if got, ok := impl.SameNames(list); ok || len(got) != 0 {
			t.Errorf("SameNames(%v) = %v, %v", shown, got, ok)
		}
	}
}

func TestPromise3IdsThatAreNotInTheListHaveZeroValues(t *testing.T) {
	list := schoolPupils()
	for _, id := range []int{math.MinInt, -1, 0, 3, 4, 6, 8, 99, 302, 997, 1000, 1 << 32, math.MaxInt} {
		checkNoPupils(t, list, id, 1)
		checkNoPupils(t, list, id, 999)
		checkNoPupils(t, list, id, id)
		checkNoPupils(t, nil, id, id+1)
	}
	if got, left, ok := impl.PlaceAll(nil); !ok || left != 0 || len(got) != 0 {
		t.Error("PlaceAll of no pupils:", got, left, ok)
	}
}

// callPupilFunctions calls each function for a list and returns the lists among the results.
func callPupilFunctions(list []impl.Pupil, a, b, class int) [][]impl.Pupil {
	if len(list) > 0 {
		impl.IsPupil(list[0])
	}
	impl.ArePupils(list)
	impl.InClass(list, class)
	impl.ClassesFor(list, a)
	impl.MeanLevel(list, class)
	impl.OldestOf(list, class)
	impl.SameNames(list)
	put, _ := impl.PutInClass(list, a, class)
	raised, _ := impl.RaiseLevel(list, a)
	placed, _, _ := impl.PlaceAll(list)
	swapped, _ := impl.SwapClasses(list, a, b)
	return [][]impl.Pupil{put, raised, placed, swapped}
}

func TestPromise29PupilFunctionsReturnForAllArguments(t *testing.T) {
	numbers := []int{math.MinInt, -1, 0, 1, 9, 10, 12, 999, math.MaxInt}
	lists := append(invalidPupilLists(), nil, []impl.Pupil{}, schoolPupils(), manyPupils(12, 0, 10), make([]impl.Pupil, 1<<16))
	for _, n := range numbers {
		for _, name := range []string{"", "a", "\xff", strings.Repeat("a", 1<<16)} {
			p := impl.Pupil{Id: n, Name: name, Born: n, Class: n, Level: n}
			lists = append(lists, []impl.Pupil{p}, []impl.Pupil{p, p}, append(schoolPupils(), p))
			p.Id, p.Born = 1000, 2000
			lists = append(lists, []impl.Pupil{p}, append(schoolPupils(), p))
		}
	}
	for _, list := range lists {
		for _, a := range numbers {
			for _, b := range numbers {
				callPupilFunctions(list, a, b, a)
				callPupilFunctions(list, 1, a, b)
			}
		}
	}
}

func TestPromise29PupilFunctionsModifyNothing(t *testing.T) {
	beyond := impl.Pupil{Id: 7, Name: "beyond", Born: 1, Class: 77, Level: 77}
	for _, list := range allPupilLists(t) {
		memory := append(slices.Clone(list), beyond, beyond)
		before := slices.Clone(memory)
		list = memory[:len(list)]
		for a := 1; a <= len(list); a++ {
			results := callPupilFunctions(list, a, a%len(list)+1, a%10)
			if !slices.Equal(memory, before) {
				t.Fatalf("the memory of the argument is now %v; it was %v", memory, before)
			}
			var kept [][]impl.Pupil
			for _, x := range results {
				kept = append(kept, slices.Clone(x))
			}
			for i := range memory {
				memory[i] = beyond
			}
			for i, x := range results {
				if !slices.Equal(x, kept[i]) {
					t.Fatalf("a result changed with its argument from %v to %v", kept[i], x)
				}
			}
			copy(memory, before)
		}
	}
}

func TestPromise29ListsOfPupilsShareNoMemory(t *testing.T) {
	list := schoolPupils()
	before := slices.Clone(list)
	for _, x := range callPupilFunctions(list, 7, 101, 1) {
		if len(x) != len(list) {
			t.Error("no list:", x)
		}
		for i := range x {
			x[i] = impl.Pupil{}
		}
		if !slices.Equal(list, before) {
			t.Errorf("the list changed with a result to %v", list)
		}
	}
	groups, _ := impl.SameNames(list)
	want := [][]int{{1, 7, 300, 301}, {2, 100}, {5, 998}}
	for i := range groups {
		longer := append(groups[i], -1, -2, -3, -4)
		if !slices.EqualFunc(groups, want, slices.Equal[[]int]) {
			t.Errorf("the Ids share memory: %v behind %v", groups, longer)
		}
	}
	ids, _ := impl.InClass(list, 1)
	ids[0] = 555
	again, ok := impl.InClass(list, 1)
	checkInts(t, "InClass again", again, ok, 1, 7, 300)
	classes, _ := impl.ClassesFor(list, 1)
	classes[0] = 555
	again, ok = impl.ClassesFor(list, 1)
	checkInts(t, "ClassesFor again", again, ok, 1, 2, 3, 5, 6, 7, 8, 9)
}
