package tests

import (
	"math"
	"math/big"
	"math/rand"
	"slices"
	"strconv"
	"strings"
	"testing"

	"loop.example/g01006/impl"
)

// systemOf returns a system whose units have some sizes behind the first one.
func systemOf(sizes ...int) []impl.Unit {
	system := []impl.Unit{{Name: "grain", Size: 1}}
	for i, size := range sizes {
		system = append(system, impl.Unit{Name: []string{"cup", "pound", "stone", "load", "ship", "fleet"}[i], Size: size})
	}
	return system
}

func amountOf(counts ...int) impl.Amount { return impl.Amount{Counts: counts} }

// fullAmount returns the amount with equal counts of all units.
func fullAmount(units, count int) impl.Amount {
	return impl.Amount{Counts: slices.Repeat([]int{count}, units)}
}

// someSystems are systems of all lengths with the smallest and the greatest sizes, and some more.
func someSystems() [][]impl.Unit {
	systems := [][]impl.Unit{systemOf(), systemOf(2), systemOf(3), systemOf(100), systemOf(2, 100), systemOf(100, 2), systemOf(16, 12), systemOf(99, 7, 98), systemOf(7, 7, 7, 7)}
	for behind := 2; behind < impl.MaxUnits; behind++ {
		systems = append(systems, systemOf(slices.Repeat([]int{2}, behind)...), systemOf(slices.Repeat([]int{100}, behind)...), systemOf([]int{12, 20, 2, 100, 53}[:behind]...))
	}
	return systems
}

// someAmounts returns amounts in a system, always the same ones; many of their counts are at the
// limits of counts or of proper ones.
func someAmounts(system []impl.Unit, n int) []impl.Amount {
	units := len(system)
	amounts := []impl.Amount{fullAmount(units, 0), fullAmount(units, 1), fullAmount(units, 9998), fullAmount(units, 9999)}
	for at := range units {
		for _, count := range []int{1, 2, 99, 100, 101, 9998, 9999} {
			alone, missing := fullAmount(units, 0), fullAmount(units, 9999)
			alone.Counts[at] = count
			missing.Counts[at] -= count
			amounts = append(amounts, alone, missing)
		}
	}
	random := rand.New(rand.NewSource(7))
	for i := range n {
		a := fullAmount(units, 0)
		for at := range a.Counts {
			most := 9999
			if i%3 == 0 && at+1 < units {
				most = system[at+1].Size
			} else if i%3 == 1 {
				most = 20
			}
			a.Counts[at] = random.Intn(most + 1)
		}
		amounts = append(amounts, a)
	}
	return amounts
}

// invalidSystems are lists that differ from systems in just one place, and worse ones.
func invalidSystems() [][]impl.Unit {
	systems := [][]impl.Unit{nil, {}, systemOf(2, 2, 2, 2, 2, 2), systemOf(100, 100, 100, 100, 100, 100), systemOf(16, 12)[1:], {{}}, {{}, {}}, {{Name: "grain"}}, {{Size: 1}}}
	badNames := []string{"", "grainsgrain", "Grain", "graiN", "grain ", " grain", "gr-ain", "gr1in", "gra`n", "gra{n", "gra@n", "gräin", "gra\x00n", "gra\xffn", strings.Repeat("a", 1<<20)}
	badSizes := append(numbersOutside(2, 100), 0)
	for _, units := range []int{1, 2, 3, impl.MaxUnits} {
		whole := systemOf(slices.Repeat([]int{2}, units-1)...)
		for at := range units {
			sizes := badSizes
			if at == 0 {
				sizes = append(slices.Clone(badSizes), 2, 3, 100)
				sizes = slices.DeleteFunc(sizes, func(size int) bool { return size == 1 })
			}
			for _, size := range sizes {
				systems = append(systems, systemWith(whole, at, impl.Unit{Name: whole[at].Name, Size: size}))
			}
			for _, name := range badNames {
				systems = append(systems, systemWith(whole, at, impl.Unit{Name: name, Size: whole[at].Size}))
			}
			for other := range at {
				systems = append(systems, systemWith(whole, at, impl.Unit{Name: whole[other].Name, Size: whole[at].Size}))
			}
		}
	}
	many := make([]impl.Unit, 1<<16)
	for i := range many {
		many[i] = impl.Unit{Name: "same", Size: 2}
	}
	return append(systems, many)
}

// systemWith returns a system with another unit at a place.
func systemWith(system []impl.Unit, at int, u impl.Unit) []impl.Unit {
	changed := slices.Clone(system)
	changed[at] = u
	return changed
}

// invalidAmounts are amounts that differ from one in a system of some units in just one place.
func invalidAmounts(units int) []impl.Amount {
	amounts := []impl.Amount{{}, fullAmount(0, 0), fullAmount(units+1, 0), fullAmount(units+1, 1), fullAmount(units-1, 0), fullAmount(units-1, 9), fullAmount(2*units, 1), fullAmount(1<<16, 3)}
	for at := range units {
		for _, count := range numbersOutside(0, 9999) {
			for _, rest := range []int{0, 1, 9999} {
				a := fullAmount(units, rest)
				a.Counts[at] = count
				amounts = append(amounts, a)
			}
		}
	}
	return amounts
}

// wantedWeights returns how many of the smallest unit each unit is.
func wantedWeights(system []impl.Unit) []int {
	weights := []int{1}
	for _, u := range system[1:] {
		weights = append(weights, weights[len(weights)-1]*u.Size)
	}
	return weights
}

// wantedWorth counts each unit by its weight.
func wantedWorth(system []impl.Unit, a impl.Amount) int {
	worth := 0
	for i, weight := range wantedWeights(system) {
		worth += a.Counts[i] * weight
	}
	return worth
}

// wantedProper gives as much as possible to each unit, the greatest first.
func wantedProper(system []impl.Unit, value int) (impl.Amount, bool) {
	if value < 0 {
		return impl.Amount{}, false
	}
	a := fullAmount(len(system), 0)
	weights := wantedWeights(system)
	for i := len(weights) - 1; i >= 0; i-- {
		a.Counts[i] = value / weights[i]
		value -= a.Counts[i] * weights[i]
	}
	if a.Counts[len(system)-1] > 9999 {
		return impl.Amount{}, false
	}
	return a, true
}

// wantedConverted computes the value of a conversion without a limit.
func wantedConverted(from []impl.Unit, a impl.Amount, to []impl.Unit, num, den int) (impl.Amount, bool) {
	value := big.NewInt(int64(wantedWorth(from, a)))
	value.Mul(value, big.NewInt(int64(num)))
	value.Div(value, big.NewInt(int64(den)))
	return wantedProper(to, int(value.Int64()))
}

// checkAmount tests a result against the amount that is wanted, or against none if there is none.
func checkAmount(t *testing.T, what string, got impl.Amount, ok bool, want impl.Amount, there bool) {
	t.Helper()
	if !there {
		want = impl.Amount{}
	}
	if ok != there || !slices.Equal(got.Counts, want.Counts) {
		t.Errorf("%s: %v, %v; want %v, %v", what, got, ok, want, there)
	}
}

// checkProper tests the amount of a value, which must have that value and be proper.
func checkProper(t *testing.T, system []impl.Unit, value int) {
	t.Helper()
	want, there := wantedProper(system, value)
	a, ok := impl.ProperOf(system, value)
	checkAmount(t, "ProperOf "+strconv.Itoa(value), a, ok, want, there)
	if !ok {
		return
	}
	for i, count := range a.Counts[:len(a.Counts)-1] {
		if count >= system[i+1].Size {
			t.Errorf("ProperOf(%v, %d) = %v is not proper", system, value, a)
		}
	}
	if back, fine := impl.ValueIn(system, a); !fine || back != value {
		t.Errorf("ProperOf(%v, %d) = %v has the value %d, %v", system, value, a, back, fine)
	}
}

// checkPart tests a part of an amount and what is left of it, which must make the whole.
func checkPart(t *testing.T, system []impl.Unit, a impl.Amount, n int) {
	t.Helper()
	what := strconv.Itoa(n) + " parts"
	part, left, ok := impl.PartOf(system, a, n)
	if n < 1 || n > 1000 {
		checkAmount(t, what, part, ok, impl.Amount{}, false)
		checkAmount(t, what+", left", left, ok, impl.Amount{}, false)
		return
	}
	worth := wantedWorth(system, a)
	want, there := wantedProper(system, worth/n)
	rest, fits := wantedProper(system, worth-worth/n*n)
	if !fits {
		t.Fatal("what is left does not fit", system, a, n)
	}
	checkAmount(t, what, part, ok, want, there)
	if !there {
		rest = impl.Amount{}
	}
	checkAmount(t, what+", left", left, ok, rest, there)
	if !ok || !there {
		return
	}
	one, _ := impl.ValueIn(system, part)
	remaining, _ := impl.ValueIn(system, left)
	if n*one+remaining != worth || remaining < 0 || remaining >= n {
		t.Errorf("PartOf(%v, %v, %d): %d times %d and %d left are not %d", system, a, n, n, one, remaining, worth)
	}
	checkJoinedParts(t, system, part, left, n, worth)
}

// checkJoinedParts tests that n parts and what is left are added to the whole.
func checkJoinedParts(t *testing.T, system []impl.Unit, part, left impl.Amount, n, worth int) {
	t.Helper()
	whole, there := wantedProper(system, worth)
	if !there {
		return
	}
	parts, ok := impl.TimesOf(system, part, n)
	if !ok {
		t.Errorf("%d times the part %v in %v do not fit, but the whole does", n, part, system)
	}
	sum, ok := impl.SumOf(system, parts, left)
	checkAmount(t, "parts and what is left", sum, ok, whole, true)
	gone, ok := impl.DifferenceOf(system, whole, parts)
	checkAmount(t, "the whole without the parts", gone, ok, left, true)
}

func TestPromise7PartsAndWhatIsLeftMakeTheWhole(t *testing.T) {
	for _, system := range someSystems() {
		for _, a := range someAmounts(system, 60) {
			for _, n := range []int{-1, 0, 1, 2, 3, 5, 7, 10, 12, 16, 99, 100, 101, 997, 999, 1000, 1001, 1002} {
				checkPart(t, system, a, n)
			}
		}
	}
	for _, n := range numbersOutside(1, 1000) {
		checkPart(t, systemOf(16, 12), amountOf(5, 3, 2), n)
		checkPart(t, systemOf(), amountOf(0), n)
	}
}

func TestPromise7AllPartsOfSmallAmounts(t *testing.T) {
	for _, system := range [][]impl.Unit{systemOf(), systemOf(2), systemOf(16, 12), systemOf(2, 2, 2)} {
		for value := range 300 {
			a, _ := wantedProper(system, value)
			for n := 1; n <= 310; n++ {
				checkPart(t, system, a, n)
			}
		}
	}
	for n := 1; n <= 1000; n++ {
		checkPart(t, systemOf(), amountOf(9999), n)
		checkPart(t, systemOf(100), amountOf(9999, 9999), n)
		checkPart(t, systemOf(100, 100, 100, 100, 100), fullAmount(6, 9999), n)
	}
}

func TestPromise7KnownParts(t *testing.T) {
	for _, c := range []struct {
		sizes      []int
		a          []int
		n          int
		part, left []int
	}{
		{[]int{16, 12}, []int{5, 3, 2}, 1, []int{5, 3, 2}, []int{0, 0, 0}},
		{[]int{16, 12}, []int{5, 3, 2}, 2, []int{10, 1, 1}, []int{1, 0, 0}},
		{[]int{16, 12}, []int{5, 3, 2}, 437, []int{1, 0, 0}, []int{0, 0, 0}},
		{[]int{16, 12}, []int{5, 3, 2}, 438, []int{0, 0, 0}, []int{5, 3, 2}},
		{[]int{16, 12}, []int{5, 3, 2}, 1000, []int{0, 0, 0}, []int{5, 3, 2}},
		{[]int{16, 12}, []int{0, 0, 0}, 1000, []int{0, 0, 0}, []int{0, 0, 0}},
		{[]int{16, 12}, []int{16, 0, 0}, 1, []int{0, 1, 0}, []int{0, 0, 0}},
		{[]int{16, 12}, []int{9999, 9999, 9999}, 1, nil, nil},
		{[]int{16, 12}, []int{9999, 9999, 9999}, 2, []int{15, 1, 5442}, []int{1, 0, 0}},
		{[]int{2}, []int{0, 9999}, 1, []int{0, 9999}, []int{0, 0}},
		{[]int{2}, []int{1, 9999}, 1, []int{1, 9999}, []int{0, 0}},
		{[]int{2}, []int{2, 9999}, 1, nil, nil},
		{[]int{2}, []int{2, 9999}, 2, []int{0, 5000}, []int{0, 0}},
		{[]int{2}, []int{999, 0}, 1000, []int{0, 0}, []int{1, 499}},
		{[]int{2}, []int{1000, 0}, 1000, []int{1, 0}, []int{0, 0}},
		{nil, []int{9999}, 1000, []int{9}, []int{999}},
		{nil, []int{9999}, 1, []int{9999}, []int{0}},
		{nil, []int{0}, 1, []int{0}, []int{0}},
	} {
		system := systemOf(c.sizes...)
		part, left, ok := impl.PartOf(system, amountOf(c.a...), c.n)
		checkAmount(t, "a known part", part, ok, amountOf(c.part...), c.part != nil)
		checkAmount(t, "a known rest", left, ok, amountOf(c.left...), c.part != nil)
	}
}

func TestPromise7InvalidAmountsHaveNoParts(t *testing.T) {
	for _, bad := range invalidSystems() {
		for _, units := range []int{1, 2, min(len(bad), 9)} {
			for _, n := range []int{0, 1, 2, 1000} {
				part, left, ok := impl.PartOf(bad, fullAmount(units, 1), n)
				checkAmount(t, "a part in an invalid system", part, ok, impl.Amount{}, false)
				checkAmount(t, "a rest in an invalid system", left, ok, impl.Amount{}, false)
			}
		}
	}
	for _, system := range [][]impl.Unit{systemOf(), systemOf(16), systemOf(2, 2, 2, 2, 2)} {
		for _, bad := range invalidAmounts(len(system)) {
			for _, n := range []int{0, 1, 2, 1000} {
				part, left, ok := impl.PartOf(system, bad, n)
				checkAmount(t, "a part of an invalid amount", part, ok, impl.Amount{}, false)
				checkAmount(t, "a rest of an invalid amount", left, ok, impl.Amount{}, false)
			}
		}
	}
}

func TestSystemsOfMeasures(t *testing.T) {
	for _, system := range someSystems() {
		if !impl.IsSystem(system) {
			t.Errorf("%v is no system", system)
		}
	}
	for _, bad := range invalidSystems() {
		if impl.IsSystem(bad) {
			t.Errorf("a list of %d units is a system: %.100v", len(bad), bad[:min(len(bad), 7)])
		}
	}
	for size := -3; size <= 120; size++ {
		for at := range impl.MaxUnits {
			system := systemWith(systemOf(2, 100, 50, 100, 2), at, impl.Unit{Name: "other", Size: size})
			want := at == 0 && size == 1 || at > 0 && size >= 2 && size <= 100
			if got := impl.IsSystem(system); got != want {
				t.Errorf("IsSystem with the size %d at %d = %v", size, at, got)
			}
		}
	}
	if impl.MaxUnits != 6 {
		t.Error("MaxUnits is", impl.MaxUnits)
	}
}

func TestNamesOfUnits(t *testing.T) {
	for _, name := range []string{"a", "z", "az", "zzzzzzzzzz", "cupcupcupc", "grai", "grains", "rain", "nirag"} {
		for at := range 3 {
			if system := systemWith(systemOf(2, 2), at, impl.Unit{Name: name, Size: min(at, 1) + 1}); !impl.IsSystem(system) {
				t.Errorf("%v is no system", system)
			}
		}
	}
	for b := range 256 {
		name := "a" + string([]byte{byte(b)}) + "a"
		want := b >= 'a' && b <= 'z'
		for at := range 3 {
			system := systemWith(systemOf(2, 2), at, impl.Unit{Name: name, Size: min(at, 1) + 1})
			if got := impl.IsSystem(system); got != want {
				t.Errorf("IsSystem with the name %q = %v", name, got)
			}
		}
	}
	for length := range 14 {
		system := []impl.Unit{{Name: strings.Repeat("a", length), Size: 1}}
		if got := impl.IsSystem(system); got != (length >= 1 && length <= 10) {
			t.Errorf("IsSystem with a name of %d letters = %v", length, got)
		}
	}
}

func TestAmountsInSystems(t *testing.T) {
	for _, system := range someSystems() {
		for _, a := range someAmounts(system, 60) {
			if !impl.IsAmount(system, a) {
				t.Errorf("%v is no amount in %v", a, system)
			}
		}
		for _, bad := range invalidAmounts(len(system)) {
			if impl.IsAmount(system, bad) {
				t.Errorf("%d counts are an amount in %v", len(bad.Counts), system)
			}
		}
	}
	for units := range 9 {
		if got := impl.IsAmount(systemOf(16, 12), fullAmount(units, 1)); got != (units == 3) {
			t.Errorf("IsAmount with %d counts = %v", units, got)
		}
	}
	for _, bad := range invalidSystems() {
		for _, units := range []int{0, 1, 2, 3, 6, min(len(bad), 9)} {
			if impl.IsAmount(bad, fullAmount(units, 0)) {
				t.Errorf("there is an amount of %d counts in an invalid system", units)
			}
		}
	}
}

func TestValuesOfAmounts(t *testing.T) {
	for _, system := range someSystems() {
		for _, a := range someAmounts(system, 200) {
			if n, ok := impl.ValueIn(system, a); !ok || n != wantedWorth(system, a) {
				t.Errorf("ValueIn(%v, %v) = %d, %v; want %d", system, a, n, ok, wantedWorth(system, a))
			}
		}
		for _, bad := range invalidAmounts(len(system)) {
			if n, ok := impl.ValueIn(system, bad); ok || n != 0 {
				t.Errorf("ValueIn of an invalid amount = %d, %v", n, ok)
			}
		}
	}
	for _, bad := range invalidSystems() {
		if n, ok := impl.ValueIn(bad, fullAmount(min(len(bad), 9), 1)); ok || n != 0 {
			t.Errorf("ValueIn in an invalid system = %d, %v", n, ok)
		}
	}
}

func TestKnownValuesOfAmounts(t *testing.T) {
	for _, c := range []struct {
		sizes []int
		a     []int
		value int
	}{
		{nil, []int{0}, 0},
		{nil, []int{9999}, 9999},
		{[]int{16, 12}, []int{5, 3, 2}, 437},
		{[]int{16, 12}, []int{437, 0, 0}, 437},
		{[]int{16, 12}, []int{0, 1, 0}, 16},
		{[]int{16, 12}, []int{0, 0, 1}, 192},
		{[]int{12, 16}, []int{0, 1, 1}, 204},
		{[]int{2}, []int{9999, 9999}, 29997},
		{[]int{100, 100, 100, 100, 100}, []int{0, 0, 0, 0, 0, 9999}, 99990000000000},
		{[]int{100, 100, 100, 100, 100}, []int{9999, 9999, 9999, 9999, 9999, 9999}, 100999999999899},
	} {
		if n, ok := impl.ValueIn(systemOf(c.sizes...), amountOf(c.a...)); !ok || n != c.value {
			t.Errorf("ValueIn(%v, %v) = %d, %v; want %d", c.sizes, c.a, n, ok, c.value)
		}
	}
}

func TestProperAmounts(t *testing.T) {
	for _, system := range someSystems() {
		weights := wantedWeights(system)
		for _, weight := range weights {
			for _, times := range []int{1, 2, 99, 100, 101, 9998, 9999, 10000, 10001} {
				for by := -2; by <= 2; by++ {
					checkProper(t, system, times*weight+by)
				}
			}
		}
		// The greatest count of the last unit is still proper with all that is less than one more.
		last := 10000 * weights[len(weights)-1]
		for by := -5; by <= 5; by++ {
			checkProper(t, system, last+by)
			checkProper(t, system, last-weights[len(weights)-1]+by)
		}
		for _, a := range someAmounts(system, 300) {
			checkProper(t, system, wantedWorth(system, a))
		}
		for value := -3; value <= 500; value++ {
			checkProper(t, system, value)
		}
		for _, value := range []int{math.MinInt, math.MinInt + 1, -1 << 32, -437, -16, 1 << 32, 1 << 62, math.MaxInt - 1, math.MaxInt} {
			checkProper(t, system, value)
		}
	}
	for _, bad := range invalidSystems() {
		for _, value := range []int{-1, 0, 1, 437, math.MaxInt} {
			a, ok := impl.ProperOf(bad, value)
			checkAmount(t, "ProperOf in an invalid system", a, ok, impl.Amount{}, false)
		}
	}
}

func TestKnownProperAmounts(t *testing.T) {
	for _, c := range []struct {
		sizes  []int
		value  int
		proper []int
	}{
		{[]int{16, 12}, 437, []int{5, 3, 2}},
		{[]int{16, 12}, 191, []int{15, 11, 0}},
		{[]int{16, 12}, 192, []int{0, 0, 1}},
		{[]int{16, 12}, 0, []int{0, 0, 0}},
		{[]int{16, 12}, 1919999, []int{15, 11, 9999}},
		{[]int{16, 12}, 1920000, nil},
		{[]int{16, 12}, -1, nil},
		{nil, 0, []int{0}},
		{nil, 9999, []int{9999}},
		{nil, 10000, nil},
		{nil, -1, nil},
		{[]int{2}, 19999, []int{1, 9999}},
		{[]int{2}, 20000, nil},
		{[]int{100, 100, 100, 100, 100}, 99999999999999, []int{99, 99, 99, 99, 99, 9999}},
		{[]int{100, 100, 100, 100, 100}, 100000000000000, nil},
		{[]int{2, 2, 2, 2, 2}, 319999, []int{1, 1, 1, 1, 1, 9999}},
		{[]int{2, 2, 2, 2, 2}, 320000, nil},
	} {
		a, ok := impl.ProperOf(systemOf(c.sizes...), c.value)
		checkAmount(t, "ProperOf "+strconv.Itoa(c.value), a, ok, amountOf(c.proper...), c.proper != nil)
	}
}

// checkTogether tests the sum and the differences of two amounts.
func checkTogether(t *testing.T, system []impl.Unit, a, b impl.Amount) {
	t.Helper()
	first, second := wantedWorth(system, a), wantedWorth(system, b)
	what := strconv.Itoa(first) + " and " + strconv.Itoa(second)
	want, there := wantedProper(system, first+second)
	c, ok := impl.SumOf(system, a, b)
	checkAmount(t, "the sum of "+what, c, ok, want, there)
	c, ok = impl.SumOf(system, b, a)
	checkAmount(t, "the other sum of "+what, c, ok, want, there)
	want, there = wantedProper(system, first-second)
	c, ok = impl.DifferenceOf(system, a, b)
	checkAmount(t, "the difference of "+what, c, ok, want, there)
	want, there = wantedProper(system, second-first)
	c, ok = impl.DifferenceOf(system, b, a)
	checkAmount(t, "the other difference of "+what, c, ok, want, there)
}

func TestSumsAndDifferencesOfAmounts(t *testing.T) {
	for _, system := range someSystems() {
		amounts := someAmounts(system, 40)
		for i, a := range amounts {
			checkTogether(t, system, a, a)
			for j := i % 5; j < len(amounts); j += 5 {
				checkTogether(t, system, a, amounts[j])
			}
			if proper, ok := impl.ProperOf(system, wantedWorth(system, a)); ok {
				checkTogether(t, system, a, proper)
			}
		}
	}
}

func TestKnownSumsAndDifferences(t *testing.T) {
	for _, c := range []struct {
		sizes           []int
		a, b            []int
		sum, difference []int
	}{
		{[]int{16, 12}, []int{5, 3, 2}, []int{5, 3, 2}, []int{10, 6, 4}, []int{0, 0, 0}},
		{[]int{16, 12}, []int{5, 3, 2}, []int{0, 0, 1}, []int{5, 3, 3}, []int{5, 3, 1}},
		{[]int{16, 12}, []int{5, 3, 2}, []int{11, 8, 0}, []int{0, 0, 3}, []int{10, 6, 1}},
		{[]int{16, 12}, []int{5, 3, 2}, []int{437, 0, 0}, []int{10, 6, 4}, []int{0, 0, 0}},
		{[]int{16, 12}, []int{5, 3, 2}, []int{438, 0, 0}, []int{11, 6, 4}, nil},
		{[]int{16, 12}, []int{5, 3, 2}, []int{436, 0, 0}, []int{9, 6, 4}, []int{1, 0, 0}},
		{[]int{16, 12}, []int{0, 0, 9999}, []int{15, 11, 0}, []int{15, 11, 9999}, []int{1, 0, 9998}},
		{[]int{16, 12}, []int{0, 0, 9999}, []int{16, 11, 0}, nil, []int{0, 0, 9998}},
		{[]int{16, 12}, []int{9999, 9999, 9999}, []int{0, 0, 0}, nil, nil},
		{[]int{16, 12}, []int{9999, 9999, 9999}, []int{9999, 9999, 0}, nil, []int{0, 0, 9999}},
		{[]int{16, 12}, []int{9999, 9999, 9999}, []int{9999, 9988, 0}, nil, []int{0, 11, 9999}},
		{[]int{16, 12}, []int{9999, 9999, 9999}, []int{9999, 9987, 0}, nil, nil},
		{nil, []int{5000}, []int{4999}, []int{9999}, []int{1}},
		{nil, []int{5000}, []int{5000}, nil, []int{0}},
		{nil, []int{9999}, []int{0}, []int{9999}, []int{9999}},
		{nil, []int{4999}, []int{5000}, []int{9999}, nil},
	} {
		system := systemOf(c.sizes...)
		sum, ok := impl.SumOf(system, amountOf(c.a...), amountOf(c.b...))
		checkAmount(t, "a known sum", sum, ok, amountOf(c.sum...), c.sum != nil)
		difference, ok := impl.DifferenceOf(system, amountOf(c.a...), amountOf(c.b...))
		checkAmount(t, "a known difference", difference, ok, amountOf(c.difference...), c.difference != nil)
	}
}

func TestInvalidAmountsHaveNoSumsAndDifferences(t *testing.T) {
	checkNone := func(system []impl.Unit, a, b impl.Amount) {
		c, ok := impl.SumOf(system, a, b)
		checkAmount(t, "an invalid sum", c, ok, impl.Amount{}, false)
		c, ok = impl.DifferenceOf(system, a, b)
		checkAmount(t, "an invalid difference", c, ok, impl.Amount{}, false)
	}
	for _, system := range [][]impl.Unit{systemOf(), systemOf(16), systemOf(2, 2, 2, 2, 2)} {
		for _, bad := range invalidAmounts(len(system)) {
			checkNone(system, bad, fullAmount(len(system), 0))
			checkNone(system, fullAmount(len(system), 5), bad)
			checkNone(system, fullAmount(len(system), 0), bad)
			checkNone(system, bad, bad)
		}
	}
	for _, bad := range invalidSystems() {
		for _, units := range []int{0, 1, 2, min(len(bad), 9)} {
			checkNone(bad, fullAmount(units, 2), fullAmount(units, 1))
		}
	}
}

// checkTimes tests an amount that is multiplied.
func checkTimes(t *testing.T, system []impl.Unit, a impl.Amount, n int) {
	t.Helper()
	var want impl.Amount
	there := n >= 0 && n <= 1000
	if there {
		want, there = wantedProper(system, n*wantedWorth(system, a))
	}
	c, ok := impl.TimesOf(system, a, n)
	checkAmount(t, strconv.Itoa(n)+" times", c, ok, want, there)
}

func TestTimesOfAmounts(t *testing.T) {
	for _, system := range someSystems() {
		for _, a := range someAmounts(system, 60) {
			for _, n := range []int{-2, -1, 0, 1, 2, 3, 10, 99, 100, 101, 998, 999, 1000, 1001, 1002} {
				checkTimes(t, system, a, n)
			}
		}
	}
	for _, n := range numbersOutside(0, 1000) {
		checkTimes(t, systemOf(16, 12), amountOf(0, 0, 0), n)
		checkTimes(t, systemOf(16, 12), amountOf(1, 0, 0), n)
		checkTimes(t, systemOf(), amountOf(9), n)
	}
	for n := range 1003 {
		checkTimes(t, systemOf(16, 12), amountOf(5, 3, 2), n)
		checkTimes(t, systemOf(), amountOf(10), n)
	}
}

func TestKnownTimesOfAmounts(t *testing.T) {
	for _, c := range []struct {
		sizes []int
		a     []int
		n     int
		times []int
	}{
		{[]int{16, 12}, []int{5, 3, 2}, 3, []int{15, 9, 6}},
		{[]int{16, 12}, []int{5, 3, 2}, 0, []int{0, 0, 0}},
		{[]int{16, 12}, []int{5, 3, 2}, 1000, []int{8, 0, 2276}},
		{[]int{16, 12}, []int{5, 3, 2}, 1001, nil},
		{[]int{16, 12}, []int{9999, 9999, 9999}, 0, []int{0, 0, 0}},
		{[]int{16, 12}, []int{9999, 9999, 9999}, 1, nil},
		{[]int{16, 12}, []int{16, 0, 0}, 1, []int{0, 1, 0}},
		{[]int{100, 100, 100, 100, 100}, []int{9999, 9999, 9999, 9999, 9999, 9999}, 1000, nil},
		{nil, []int{9}, 1000, []int{9000}},
		{nil, []int{10}, 1000, nil},
		{nil, []int{11}, 909, []int{9999}},
		{nil, []int{0}, 1000, []int{0}},
		{nil, []int{0}, 1001, nil},
		{nil, []int{0}, -1, nil},
	} {
		a, ok := impl.TimesOf(systemOf(c.sizes...), amountOf(c.a...), c.n)
		checkAmount(t, strconv.Itoa(c.n)+" times", a, ok, amountOf(c.times...), c.times != nil)
	}
}

func TestInvalidAmountsAreNotMultiplied(t *testing.T) {
	for _, system := range [][]impl.Unit{systemOf(), systemOf(16), systemOf(2, 2, 2, 2, 2)} {
		for _, bad := range invalidAmounts(len(system)) {
			for _, n := range []int{-1, 0, 1, 2, 1000} {
				a, ok := impl.TimesOf(system, bad, n)
				checkAmount(t, "an invalid amount, multiplied", a, ok, impl.Amount{}, false)
			}
		}
	}
	for _, bad := range invalidSystems() {
		for _, units := range []int{0, 1, 2, min(len(bad), 9)} {
			for _, n := range []int{0, 1, 1000} {
				a, ok := impl.TimesOf(bad, fullAmount(units, 1), n)
				checkAmount(t, "an amount in an invalid system, multiplied", a, ok, impl.Amount{}, false)
			}
		}
	}
}

func TestUnitsInSystems(t *testing.T) {
	for _, system := range someSystems() {
		for i, weight := range wantedWeights(system) {
			if n, ok := impl.UnitsIn(system, system[i].Name); !ok || n != weight {
				t.Errorf("UnitsIn(%v, %q) = %d, %v; want %d", system, system[i].Name, n, ok, weight)
			}
		}
		for _, name := range []string{"", "grai", "grains", "Grain", "cups", "cu", "other", "grain ", "fleet", strings.Repeat("grain", 1<<16)} {
			if n, ok := impl.UnitsIn(system, name); ok || n != 0 {
				t.Errorf("UnitsIn(%v, %.20q) = %d, %v", system, name, n, ok)
			}
		}
	}
	for _, bad := range invalidSystems() {
		names := []string{"", "grain", "cup", "pound", "ship", "same"}
		for _, u := range bad[:min(len(bad), 9)] {
			names = append(names, u.Name)
		}
		for _, name := range names {
			if n, ok := impl.UnitsIn(bad, name); ok || n != 0 {
				t.Errorf("UnitsIn an invalid system, %.20q, = %d, %v", name, n, ok)
			}
		}
	}
	if n, ok := impl.UnitsIn(systemOf(100, 100, 100, 100, 100), "ship"); !ok || n != 10000000000 {
		t.Error("UnitsIn a long system:", n, ok)
	}
	if n, ok := impl.UnitsIn(systemOf(16, 12), "cup"); !ok || n != 16 {
		t.Error("UnitsIn a known system:", n, ok)
	}
}

// checkConverted tests an amount that is converted to another system.
func checkConverted(t *testing.T, from []impl.Unit, a impl.Amount, to []impl.Unit, num, den int) {
	t.Helper()
	var want impl.Amount
	there := num >= 1 && num <= 10000 && den >= 1 && den <= 10000
	if there {
		want, there = wantedConverted(from, a, to, num, den)
	}
	c, ok := impl.ConvertTo(from, a, to, num, den)
	checkAmount(t, strconv.Itoa(wantedWorth(from, a))+" times "+strconv.Itoa(num)+" / "+strconv.Itoa(den), c, ok, want, there)
}

func TestConvertedAmounts(t *testing.T) {
	ends := []int{-1, 0, 1, 2, 7, 100, 9999, 10000, 10001}
	systems := someSystems()
	for i, from := range systems {
		for j, to := range systems {
			for k, a := range someAmounts(from, 20) {
				num, den := ends[(i+j+k)%len(ends)], ends[(i+3*j+k/3)%len(ends)]
				checkConverted(t, from, a, to, num, den)
				checkConverted(t, from, a, to, 1, 1)
				checkConverted(t, from, a, to, 10000, 1)
				checkConverted(t, from, a, to, 1, 10000)
			}
		}
	}
	for _, num := range append(ends, numbersOutside(1, 10000)...) {
		for _, den := range append(ends, numbersOutside(1, 10000)...) {
			checkConverted(t, systemOf(16, 12), amountOf(5, 3, 2), systemOf(100, 2, 3), num, den)
			checkConverted(t, systemOf(), amountOf(0), systemOf(), num, den)
			checkConverted(t, systemOf(100, 100, 100, 100, 100), fullAmount(6, 9999), systemOf(100, 100, 100, 100, 100), num, den)
		}
	}
}

func TestKnownConversions(t *testing.T) {
	long := []int{100, 100, 100, 100, 100}
	for _, c := range []struct {
		from     []int
		a        []int
		to       []int
		num, den int
		want     []int
	}{
		{[]int{16, 12}, []int{5, 3, 2}, nil, 1, 2, []int{218}},
		{[]int{16, 12}, []int{5, 3, 2}, nil, 1, 1, []int{437}},
		{[]int{16, 12}, []int{5, 3, 2}, []int{16, 12}, 1, 1, []int{5, 3, 2}},
		{[]int{16, 12}, []int{437, 0, 0}, []int{16, 12}, 1, 1, []int{5, 3, 2}},
		{[]int{16, 12}, []int{5, 3, 2}, []int{10, 10}, 1, 1, []int{7, 3, 4}},
		{[]int{16, 12}, []int{5, 3, 2}, []int{10, 10}, 2, 3, []int{1, 9, 2}},
		{nil, []int{437}, []int{16, 12}, 1, 1, []int{5, 3, 2}},
		{nil, []int{5}, nil, 3, 2, []int{7}},
		{nil, []int{1}, nil, 9999, 10000, []int{0}},
		{nil, []int{1}, nil, 10000, 9999, []int{1}},
		{nil, []int{9999}, nil, 10000, 9999, nil},
		{nil, []int{9998}, nil, 10000, 9999, []int{9998}},
		{nil, []int{1}, nil, 9999, 1, []int{9999}},
		{nil, []int{1}, nil, 10000, 1, nil},
		{nil, []int{0}, nil, 10000, 1, []int{0}},
		{nil, []int{0}, nil, 10001, 1, nil},
		{nil, []int{0}, nil, 1, 10001, nil},
		{nil, []int{9999}, []int{100}, 10000, 100, []int{0, 9999}},
		{nil, []int{9999}, []int{100}, 10000, 99, nil},
		{[]int{100}, []int{9999, 9999}, nil, 1, 101, []int{9999}},
		{[]int{100}, []int{9999, 9999}, nil, 1, 100, nil},
		{long, []int{9999, 9999, 9999, 9999, 9999, 9999}, long, 10000, 10000, nil},
		{long, []int{99, 99, 99, 99, 99, 9999}, long, 10000, 10000, []int{99, 99, 99, 99, 99, 9999}},
		{long, []int{9999, 9999, 9999, 9999, 9999, 9999}, long, 9900, 10000, []int{0, 99, 99, 99, 99, 9998}},
		{long, []int{9999, 9999, 9999, 9999, 9999, 9999}, long, 10000, 1, nil},
		{long, []int{0, 0, 0, 0, 0, 1}, nil, 1, 10000, nil},
	} {
		got, ok := impl.ConvertTo(systemOf(c.from...), amountOf(c.a...), systemOf(c.to...), c.num, c.den)
		checkAmount(t, "a known conversion by "+strconv.Itoa(c.num)+" / "+strconv.Itoa(c.den), got, ok, amountOf(c.want...), c.want != nil)
	}
}

func TestInvalidAmountsAreNotConverted(t *testing.T) {
	good := systemOf(16, 12)
	checkNone := func(from []impl.Unit, a impl.Amount, to []impl.Unit) {
		for _, num := range []int{0, 1, 10000} {
			c, ok := impl.ConvertTo(from, a, to, num, 1)
			checkAmount(t, "an invalid conversion", c, ok, impl.Amount{}, false)
		}
	}
	for _, bad := range invalidSystems() {
		checkNone(good, amountOf(5, 3, 2), bad)
		checkNone(good, amountOf(0, 0, 0), bad)
		checkNone(bad, fullAmount(min(len(bad), 9), 1), good)
		checkNone(bad, fullAmount(min(len(bad), 9), 1), bad)
	}
	for _, bad := range invalidAmounts(len(good)) {
		checkNone(good, bad, good)
		checkNone(good, bad, systemOf())
		checkNone(good, bad, systemOf(2, 2, 2, 2, 2))
	}
	// Amounts that fit into the other system only.
	checkNone(good, amountOf(1), systemOf())
	checkNone(systemOf(), amountOf(5, 3, 2), good)
}

// wantedAmountText joins the words for all counts but 0, the last one first.
func wantedAmountText(system []impl.Unit, a impl.Amount) string {
	text := ""
	for i, count := range a.Counts {
		if count == 0 {
			continue
		}
		piece := strconv.Itoa(count) + " " + system[i].Name
		if text != "" {
			piece += ", "
		}
		text = piece + text
	}
	if text == "" {
		return "0 " + system[0].Name
	}
	return text
}

func TestTextsOfAmounts(t *testing.T) {
	for _, system := range someSystems() {
		for _, a := range someAmounts(system, 100) {
			if s, ok := impl.AmountText(system, a); !ok || s != wantedAmountText(system, a) {
				t.Errorf("AmountText(%v, %v) = %q, %v; want %q", system, a, s, ok, wantedAmountText(system, a))
			}
		}
		for _, bad := range invalidAmounts(len(system)) {
			if s, ok := impl.AmountText(system, bad); ok || s != "" {
				t.Errorf("AmountText of an invalid amount = %.100q, %v", s, ok)
			}
		}
		// Each set of counts that are 0 leaves out just their units.
		for set := range 1 << len(system) {
			a := fullAmount(len(system), 0)
			for i := range a.Counts {
				a.Counts[i] = set >> i & 1 * (i + 1)
			}
			if s, ok := impl.AmountText(system, a); !ok || s != wantedAmountText(system, a) {
				t.Errorf("AmountText(%v, %v) = %q, %v; want %q", system, a, s, ok, wantedAmountText(system, a))
			}
		}
	}
	for _, bad := range invalidSystems() {
		for _, count := range []int{0, 1} {
			if s, ok := impl.AmountText(bad, fullAmount(min(len(bad), 9), count)); ok || s != "" {
				t.Errorf("AmountText in an invalid system = %.100q, %v", s, ok)
			}
		}
	}
}

func TestKnownTextsOfAmounts(t *testing.T) {
	for _, c := range []struct {
		sizes []int
		a     []int
		text  string
	}{
		{[]int{16, 12}, []int{5, 3, 2}, "2 pound, 3 cup, 5 grain"},
		{[]int{16, 12}, []int{0, 0, 0}, "0 grain"},
		{[]int{16, 12}, []int{5, 0, 2}, "2 pound, 5 grain"},
		{[]int{16, 12}, []int{0, 3, 0}, "3 cup"},
		{[]int{16, 12}, []int{0, 3, 2}, "2 pound, 3 cup"},
		{[]int{16, 12}, []int{5, 0, 0}, "5 grain"},
		{[]int{16, 12}, []int{0, 0, 9999}, "9999 pound"},
		{[]int{16, 12}, []int{9999, 10, 0}, "10 cup, 9999 grain"},
		{[]int{2, 2, 2, 2, 2}, []int{1, 0, 0, 100, 0, 6}, "6 ship, 100 stone, 1 grain"},
		{[]int{2, 2, 2, 2, 2}, []int{9999, 9999, 9999, 9999, 9999, 9999}, "9999 ship, 9999 load, 9999 stone, 9999 pound, 9999 cup, 9999 grain"},
		{nil, []int{0}, "0 grain"},
		{nil, []int{7}, "7 grain"},
	} {
		if s, ok := impl.AmountText(systemOf(c.sizes...), amountOf(c.a...)); !ok || s != c.text {
			t.Errorf("AmountText(%v, %v) = %q, %v; want %q", c.sizes, c.a, s, ok, c.text)
		}
	}
}

// callMeasureFunctions calls each function and returns the amounts among the results.
func callMeasureFunctions(system, other []impl.Unit, a, b impl.Amount, n, m int) []impl.Amount {
	impl.IsSystem(system)
	impl.IsAmount(system, a)
	impl.ValueIn(system, a)
	impl.AmountText(system, a)
	if len(system) > 0 {
		impl.UnitsIn(system, system[len(system)-1].Name)
	}
	proper, _ := impl.ProperOf(system, n)
	sum, _ := impl.SumOf(system, a, b)
	difference, _ := impl.DifferenceOf(system, a, b)
	same, _ := impl.DifferenceOf(system, a, a)
	times, _ := impl.TimesOf(system, a, n)
	none, _ := impl.TimesOf(system, a, 0)
	part, left, _ := impl.PartOf(system, a, n)
	whole, nothing, _ := impl.PartOf(system, a, 1)
	converted, _ := impl.ConvertTo(system, a, other, n, m)
	return []impl.Amount{proper, sum, difference, same, times, none, part, left, whole, nothing, converted}
}

func TestPromise29MeasureFunctionsReturnForAllArguments(t *testing.T) {
	numbers := []int{math.MinInt, math.MinInt + 1, -1 << 32, -1, 0, 1, 2, 1000, 1001, 10000, 10001, 1 << 32, math.MaxInt - 1, math.MaxInt}
	systems := append(invalidSystems(), someSystems()...)
	for i, system := range systems {
		other := systems[(i*7+3)%len(systems)]
		units := min(len(system), 9)
		amounts := []impl.Amount{{}, fullAmount(units, 9999), fullAmount(units+1, 0), fullAmount(units, math.MinInt), fullAmount(units, math.MaxInt), fullAmount(1<<16, 1)}
		for j, a := range amounts {
			b := amounts[(i+j+1)%len(amounts)]
			for k, n := range numbers {
				callMeasureFunctions(system, other, a, b, n, numbers[(i+j+k)%len(numbers)])
				callMeasureFunctions(system, system, a, a, n, n)
			}
		}
	}
}

// longerList returns a list as the front of longer memory, and that memory.
func longerList[T any](list []T, behind ...T) ([]T, []T) {
	memory := append(slices.Clone(list), behind...)
	return memory[:len(list)], memory
}

func TestPromise29MeasureFunctionsModifyNothing(t *testing.T) {
	for _, counts := range [][2][]int{{{5, 3, 2}, {0, 0, 1}}, {{0, 0, 0}, {0, 0, 0}}, {{9999, 9999, 9999}, {1, 2, 3}}, {{15, 11, 9998}, {1, 0, 0}}} {
		for _, n := range []int{1, 2, 3, 100, 1000} {
			system, systemMemory := longerList(systemOf(16, 12), impl.Unit{Name: "load", Size: 3}, impl.Unit{Name: "", Size: -1})
			other, otherMemory := longerList(systemOf(7, 7, 7, 7), impl.Unit{Name: "grain", Size: 1})
			a, memoryA := longerList(counts[0], 77, -7)
			b, memoryB := longerList(counts[1], -8, 88)
			systemBefore, otherBefore := slices.Clone(systemMemory), slices.Clone(otherMemory)
			results := callMeasureFunctions(system, other, amountOf(a...), amountOf(b...), n, 3)
			if !slices.Equal(systemMemory, systemBefore) || !slices.Equal(otherMemory, otherBefore) {
				t.Errorf("%v: a system is now %v or %v", counts, systemMemory, otherMemory)
			}
			if !slices.Equal(memoryA, append(slices.Clone(counts[0]), 77, -7)) || !slices.Equal(memoryB, append(slices.Clone(counts[1]), -8, 88)) {
				t.Errorf("%v: the memory of the amounts is now %v and %v", counts, memoryA, memoryB)
			}
			var kept []impl.Amount
			for _, r := range results {
				kept = append(kept, impl.Amount{Counts: slices.Clone(r.Counts)})
			}
			for _, memory := range [][]int{memoryA, memoryB} {
				for i := range memory {
					memory[i] = 99
				}
			}
			for i, r := range results {
				checkAmount(t, "result after its arguments were changed", r, true, kept[i], true)
			}
		}
	}
}

func TestPromise29CountsBehindTheLengthAreNotRead(t *testing.T) {
	counts := []int{5, 3, 2}
	system := systemOf(16, 12)
	if impl.IsAmount(system, impl.Amount{Counts: counts[:2]}) || !impl.IsAmount(system[:2], impl.Amount{Counts: counts[:2]}) {
		t.Error("an amount is taken for a longer one")
	}
	if n, ok := impl.UnitsIn(system[:2], "pound"); ok || n != 0 {
		t.Error("a unit behind a system is in it:", n, ok)
	}
	a, ok := impl.ProperOf(system[:2], 437)
	checkAmount(t, "ProperOf in a shorter system", a, ok, amountOf(5, 27), true)
}

func TestPromise29AmountsShareNoMemory(t *testing.T) {
	system := systemOf(16, 12)
	a := amountOf(5, 3, 2)
	results := append(callMeasureFunctions(system, system, a, a, 2, 1), callMeasureFunctions(system, system, a, a, 2, 1)...)
	lists := [][]int{a.Counts}
	for _, r := range results {
		if len(r.Counts) != 3 {
			t.Fatal("not all calls had results", results)
		}
		lists = append(lists, r.Counts)
	}
	checkListsApart(t, lists)
}
