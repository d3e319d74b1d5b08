package tests

import (
	"bytes"
	"math"
	"slices"
	"strconv"
	"strings"
	"testing"

	"loop.example/g01006/impl"
)

// textsOver returns all texts of at most length bytes of an alphabet, the empty one first.
func textsOver(alphabet string, length int) []string {
	all := []string{""}
	for from := 0; length > 0; length-- {
		to := len(all)
		for _, s := range all[from:to] {
			for i := range len(alphabet) {
				all = append(all, s+alphabet[i:i+1])
			}
		}
		from = to
	}
	return all
}

// longTexts are texts whose lengths are around MaxString, of different bytes.
func longTexts() []string {
	var all []string
	for _, n := range []int{impl.MaxString - 8, impl.MaxString - 1, impl.MaxString, impl.MaxString + 1, 3 * impl.MaxString} {
		for _, s := range []string{"a", ",", "#", "0", "\xff", "\x00"} {
			all = append(all, strings.Repeat(s, n))
		}
	}
	return all
}

// checkNoSplit tests that a text and a separator are rejected.
func checkNoSplit(t *testing.T, s, sep string) {
	t.Helper()
	if l, ok := impl.SplitString(s, sep); ok || len(l) != 0 {
		t.Errorf("SplitString of %d bytes by %q gives %d elements and %v", len(s), sep, len(l), ok)
	}
}

// checkNoJoin tests that elements and a separator are rejected.
func checkNoJoin(t *testing.T, parts []string, sep string) {
	t.Helper()
	if s, ok := impl.JoinStrings(parts, sep); ok || s != "" {
		t.Errorf("JoinStrings of %d elements by %q gives %d bytes and %v", len(parts), sep, len(s), ok)
	}
}

// checkSplit tests that a text has just these elements and that they are joined to it again.
func checkSplit(t *testing.T, s, sep string, want []string) {
	t.Helper()
	if l, ok := impl.SplitString(s, sep); !ok || !slices.Equal(l, want) {
		t.Errorf("SplitString(%q, %q) = %q, %v; want %q", s, sep, l, ok, want)
	}
	if back, ok := impl.JoinStrings(want, sep); !ok || back != s {
		t.Errorf("JoinStrings(%q, %q) = %q, %v; want %q", want, sep, back, ok, s)
	}
}

func TestPromise1EveryNumberRoundTrips(t *testing.T) {
	for n := -impl.MaxDecimal; n <= impl.MaxDecimal; n++ {
		s, ok := impl.FormatInt(n)
		if !ok || s != strconv.Itoa(n) {
			t.Fatalf("FormatInt(%d) = %q, %v", n, s, ok)
		}
		if m, ok := impl.ParseInt(s); !ok || m != n {
			t.Fatalf("ParseInt(%q) = %d, %v", s, m, ok)
		}
	}
}

func TestPromise1NumbersBeyondTheLimitAreRejected(t *testing.T) {
	limit := impl.MaxDecimal + 1
	for _, n := range []int{limit, -limit, limit + 1, 1 << 32, -1 << 32, math.MaxInt, math.MinInt, math.MinInt + 1} {
		if s, ok := impl.FormatInt(n); ok || s != "" {
			t.Errorf("FormatInt(%d) = %q, %v", n, s, ok)
		}
		if m, ok := impl.ParseInt(strconv.Itoa(n)); ok || m != 0 {
			t.Errorf("ParseInt of %d = %d, %v", n, m, ok)
		}
	}
}

func TestPromise1TextsThatLookLikeNumbersAreRejected(t *testing.T) {
	texts := []string{"", "-", "+", "+1", "+0", "-0", "00", "01", "-01", "0-", "1-", "--1", "-+1", " 1", "1 ", "1\n", "1\x00", "\x001", "1.0", "1.", ".1",
		"1e3", "0x1", "0b1", "1_000", "1,000", "a", "1a", "NaN", "inf", "0999999", "1000000", "-1000000", "9999999", "9223372036854775807", "9223372036854775808",
		"-9223372036854775808", "18446744073709551617", "\u0661", "\uff11", "\u22121", "\xff", strings.Repeat("0", 5000), strings.Repeat("9", 100000), "1" + strings.Repeat("0", 64)}
	for _, s := range texts {
		if n, ok := impl.ParseInt(s); ok || n != 0 {
			t.Errorf("ParseInt(%q) = %d, %v", s, n, ok)
		}
	}
}

func TestPromise1OnlyFormattedTextsAreParsed(t *testing.T) {
	const length = 4
	formatted := map[string]int{}
	for n := -999; n <= 9999; n++ {
		formatted[strconv.Itoa(n)] = n
	}
	for _, s := range textsOver("0129-+ .", length) {
		want, there := formatted[s]
		if n, ok := impl.ParseInt(s); ok != there || n != want {
			t.Errorf("ParseInt(%q) = %d, %v", s, n, ok)
		}
	}
}

func TestPromise1SplitAndJoinAreInverse(t *testing.T) {
	checkSplit(t, "a,,b", ",", []string{"a", "", "b"})
	checkSplit(t, "a;;b", ";", []string{"a", "", "b"})
	checkSplit(t, "", ",", []string{""})
	checkSplit(t, ",", ",", []string{"", ""})
	checkSplit(t, ",,", ",", []string{"", "", ""})
	checkSplit(t, ",a", ",", []string{"", "a"})
	checkSplit(t, "a,", ",", []string{"a", ""})
	checkSplit(t, "a;b", ",", []string{"a;b"})
	checkSplit(t, "one\ntwo", "\n", []string{"one", "two"})
	checkSplit(t, "a\x00b", "\x00", []string{"a", "b"})
	checkSplit(t, "a\xffb\xfe", "\xff", []string{"a", "b\xfe"})
	checkSplit(t, "\u00e9", "\xc3", []string{"", "\xa9"})
	for _, s := range textsOver("a,;", 6) {
		l, ok := impl.SplitString(s, ",")
		if !ok || len(l) != strings.Count(s, ",")+1 || slices.ContainsFunc(l, func(x string) bool { return strings.Contains(x, ",") }) {
			t.Errorf("SplitString(%q) = %q, %v", s, l, ok)
		}
		if back, ok := impl.JoinStrings(l, ","); !ok || back != s {
			t.Errorf("JoinStrings(%q) = %q, %v", l, back, ok)
		}
	}
}

func TestPromise1EveryByteSeparates(t *testing.T) {
	for c := range 256 {
		sep := string([]byte{byte(c)})
		other := string([]byte{byte(c + 1)})
		checkSplit(t, other+sep+sep+other+other, sep, []string{other, "", other + other})
		checkNoJoin(t, []string{other, sep}, sep)
	}
}

func TestPromise1JoinedTextsAreSplitAgain(t *testing.T) {
	elements := textsOver("a,", 2)
	for _, a := range elements {
		for _, b := range elements {
			for _, c := range elements {
				parts := []string{a, b, c}
				s, ok := impl.JoinStrings(parts, ",")
				if strings.Contains(a+b+c, ",") {
					if ok || s != "" {
						t.Errorf("JoinStrings(%q) = %q, %v", parts, s, ok)
					}
					continue
				}
				l, fine := impl.SplitString(s, ",")
				if !ok || !fine || !slices.Equal(l, parts) {
					t.Errorf("JoinStrings(%q) = %q, %v", parts, s, ok)
				}
			}
		}
	}
}

func TestPromise1SplitAtTheLimit(t *testing.T) {
	full := strings.Repeat("x", impl.MaxString)
	checkSplit(t, full, ",", []string{full})
	checkSplit(t, strings.Repeat(",", impl.MaxString), ",", make([]string, impl.MaxString+1))
	checkSplit(t, full[2:]+",y", ",", []string{full[2:], "y"})
	checkNoSplit(t, full+"x", ",")
	checkNoSplit(t, strings.Repeat(",", impl.MaxString+1), ",")
	checkNoSplit(t, full+full, "x")
}

func TestPromise1JoinAtTheLimit(t *testing.T) {
	full := strings.Repeat("x", impl.MaxString)
	checkNoJoin(t, []string{full + "x"}, ",")
	checkNoJoin(t, []string{full, ""}, ",")
	checkNoJoin(t, []string{"", full}, ",")
	checkNoJoin(t, []string{full[1:], "x"}, ",")
	checkSplit(t, full[2:]+",x", ",", []string{full[2:], "x"})
	checkSplit(t, full[1:]+",", ",", []string{full[1:], ""})
	checkNoJoin(t, make([]string, impl.MaxString+2), ",")
	checkNoJoin(t, make([]string, 1000000), ",")
}

func TestPromise1SeparatorsOfOneByteOnly(t *testing.T) {
	for _, sep := range []string{"", ",,", ", ", "\u00e9", "\u2014", "abc", strings.Repeat(",", 5000)} {
		for _, s := range []string{"", "a", "a,,b", sep, "a" + sep + "b"} {
			checkNoSplit(t, s, sep)
		}
		for _, parts := range [][]string{nil, {}, {""}, {"a"}, {"a", "b"}, {sep}} {
			checkNoJoin(t, parts, sep)
		}
	}
}

func TestPromise1NothingIsJoinedFromNoElements(t *testing.T) {
	checkNoJoin(t, nil, ",")
	checkNoJoin(t, []string{}, ",")
	checkNoJoin(t, make([]string, 0, 5), ",")
	checkSplit(t, "", ",", []string{""})
}

func TestPromise1SeparatorInsideAnElement(t *testing.T) {
	for _, parts := range [][]string{{","}, {",a"}, {"a,"}, {"a,b"}, {",,"}, {"a", "b,c"}, {"a,b", "c"}, {"a", "", "b", ","}, {",", "", ""}, {strings.Repeat("x", impl.MaxString-1) + ","}} {
		checkNoJoin(t, parts, ",")
		if s, ok := impl.JoinStrings(parts, ";"); !ok || s != strings.Join(parts, ";") {
			t.Errorf("JoinStrings(%q, \";\") = %q, %v", parts, s, ok)
		}
	}
}

func TestLessStringComparesBytes(t *testing.T) {
	texts := append(textsOver("\x00aB\x80\xff", 3), "ab", "abc", "b", "\u00e9", "z", "10", "9")
	for _, a := range texts {
		for _, b := range texts {
			if less := impl.LessString(a, b); less != (bytes.Compare([]byte(a), []byte(b)) < 0) {
				t.Errorf("LessString(%q, %q) = %v", a, b, less)
			}
		}
	}
	long := strings.Repeat("a", 2*impl.MaxString)
	if impl.LessString(long, long) || !impl.LessString(long, long+"a") || impl.LessString(long+"a", long) {
		t.Error("long texts")
	}
}

func TestChecksumOfKnownTexts(t *testing.T) {
	for s, want := range map[string]int{"": 7, "a": 385, "\x00": 288, "\xff": 543, "ab": 15884, "ba": 15924, "abc": 651344, "abcd": 705751, "#": 323} {
		if n, ok := impl.Checksum(s); !ok || n != want {
			t.Errorf("Checksum(%q) = %d, %v; want %d", s, n, ok, want)
		}
	}
}

func TestChecksumAtTheLimit(t *testing.T) {
	for _, s := range longTexts() {
		want := 7
		for _, c := range []byte(s) {
			want = (41*want + int(c) + 1) % 999979
		}
		short := len(s) <= impl.MaxString
		if !short {
			want = 0
		}
		if n, ok := impl.Checksum(s); ok != short || n != want {
			t.Errorf("Checksum of %d times %q = %d, %v; want %d", len(s), s[:1], n, ok, want)
		}
	}
}

func TestPromise1ChecksummedTextsRoundTrip(t *testing.T) {
	texts := append(textsOver("a0- \n\x00\xff", 4), "385", "a@385", strings.Repeat("7", 3000))
	for _, s := range texts {
		n, _ := impl.Checksum(s)
		sealed, ok := impl.AppendChecksum(s)
		if !ok || sealed != s+"#"+strconv.Itoa(n) {
			t.Errorf("AppendChecksum(%q) = %q, %v", s, sealed, ok)
		}
		if back, ok := impl.VerifyChecksum(sealed); !ok || back != s {
			t.Errorf("VerifyChecksum(%q) = %q, %v", sealed, back, ok)
		}
	}
}

func TestPromise1NoChecksumWithTheMarkOrTooLong(t *testing.T) {
	for _, s := range []string{"#", "a#", "#a", "a#b", "a#385", "##", strings.Repeat("a", 100) + "#"} {
		if x, ok := impl.AppendChecksum(s); ok || x != "" {
			t.Errorf("AppendChecksum(%q) = %q, %v", s, x, ok)
		}
	}
	for _, s := range longTexts() {
		n, _ := impl.Checksum(s)
		want := s + "#" + strconv.Itoa(n)
		fits := len(want) <= impl.MaxString && !strings.HasPrefix(s, "#")
		if x, ok := impl.AppendChecksum(s); ok != fits || fits && x != want || !fits && x != "" {
			t.Errorf("AppendChecksum of %d times %q gives %d bytes, %v", len(s), s[:1], len(x), ok)
		}
		if back, ok := impl.VerifyChecksum(want); ok != fits || fits && back != s || !fits && back != "" {
			t.Errorf("VerifyChecksum of %d times %q gives %d bytes, %v", len(s), s[:1], len(back), ok)
		}
	}
}

// TestPromise1ChecksummedTextsAtTheLimit looks for texts whose checksummed form has just
// MaxString bytes, or one more, with checksums of each number of digits from 4 on.
func TestPromise1ChecksummedTextsAtTheLimit(t *testing.T) {
	for digits := 4; digits <= 6; digits++ {
		for _, more := range []int{0, 1} {
			size := impl.MaxString - 1 - digits + more
			s, n := textWithDigits(size, digits)
			if s == "" {
				t.Fatal("no text with a checksum of", digits, "digits")
			}
			want := s + "#" + strconv.Itoa(n)
			if x, ok := impl.AppendChecksum(s); ok != (more == 0) || ok && x != want || !ok && x != "" {
				t.Errorf("AppendChecksum with a result of %d bytes: %v", len(want), ok)
			}
			if x, ok := impl.VerifyChecksum(want); ok != (more == 0) || ok && x != s || !ok && x != "" {
				t.Errorf("VerifyChecksum of %d bytes: %v", len(want), ok)
			}
		}
	}
}

// textWithDigits returns a text of size bytes whose checksum has a number of digits, and that.
func textWithDigits(size, digits int) (string, int) {
	// The first bytes differ, as they change the whole checksum and not just its last digits.
	base := strings.Repeat("x", size-3)
	for i := range 26 * 26 * 26 {
		s := string([]byte{byte('a' + i/676), byte('a' + i/26%26), byte('a' + i%26)}) + base
		if n, ok := impl.Checksum(s); ok && len(strconv.Itoa(n)) == digits {
			return s, n
		}
	}
	return "", 0
}

func TestPromise1EveryChangedByteIsDetected(t *testing.T) {
	texts := []string{"", "a", "1", "7", "7#7", "a,,b", "0 wait 3@3", "\x00", "\xff\xfe", "-12", "999999", "enrol 7 2@grade 2 hours 0 paid 5 fails 0", strings.Repeat("ab", 50)}
	for _, s := range texts {
		sealed, ok := impl.AppendChecksum(s)
		if ok == strings.Contains(s, "#") {
			t.Errorf("AppendChecksum(%q): %v", s, ok)
		}
		for i := range len(sealed) {
			for c := range 256 {
				changed := []byte(sealed)
				changed[i] = byte(c)
				if string(changed) == sealed {
					continue
				}
				if x, ok := impl.VerifyChecksum(string(changed)); ok || x != "" {
					t.Errorf("VerifyChecksum(%q), changed from %q, = %q", changed, sealed, x)
				}
			}
		}
	}
}

func TestPromise1ChangedBytesOfALongTextAreDetected(t *testing.T) {
	sealed, ok := impl.AppendChecksum(strings.Repeat("journey", 570))
	if !ok {
		t.Fatal("no checksum")
	}
	for i := range len(sealed) {
		for _, by := range []byte{1, 0x80, 0xff, '#' ^ sealed[i]} {
			changed := []byte(sealed)
			changed[i] ^= by
			if x, ok := impl.VerifyChecksum(string(changed)); by != 0 && (ok || x != "") {
				t.Errorf("byte %d changed by %d: not detected", i, by)
			}
		}
	}
}

func TestPromise1TextsThatLookLikeChecksumsAreRejected(t *testing.T) {
	texts := []string{"", "#", "a", "a#", "385", "a385", "#385", "a#384", "a#386", "a#0385", "a#+385", "a#-385", "a# 385", "a#385 ", "a#385\n", "a#385a", "a#3850", "a#38", "b#385",
		"A#385", "a@385", "a##385", "a#385#1", "a#385#385", "##7", "#07", "#8", "#-7", "#+7", "a#1000364", "7#", " #7", "#7 ", "a#\xff", "#323#323", strings.Repeat("#", 5000), strings.Repeat("9", 5000)}
	for _, s := range texts {
		if x, ok := impl.VerifyChecksum(s); ok || x != "" {
			t.Errorf("VerifyChecksum(%q) = %q, %v", s, x, ok)
		}
	}
	if x, ok := impl.VerifyChecksum("#7"); !ok || x != "" {
		t.Errorf("VerifyChecksum of the checksummed empty text = %q, %v", x, ok)
	}
	// The checksum with the modulus added to it is equal modulo it, but is not what is written.
	if x, ok := impl.VerifyChecksum("#" + strconv.Itoa(7+999979)); ok || x != "" {
		t.Errorf("VerifyChecksum of a greater number = %q, %v", x, ok)
	}
}

func TestPromise29StringFunctionsReturnForAllArguments(t *testing.T) {
	texts := append(longTexts(), "", "#", "-", ",", "\xff", "\xc3\x28", strings.Repeat("#", 1<<20), strings.Repeat("\xf0", 1<<20))
	for _, a := range texts {
		impl.ParseInt(a)
		impl.Checksum(a)
		impl.AppendChecksum(a)
		impl.VerifyChecksum(a)
		for _, b := range texts {
			impl.LessString(a, b)
			impl.SplitString(a, b)
			impl.JoinStrings([]string{a, b}, ",")
			impl.JoinStrings([]string{a}, b)
		}
	}
	huge := strings.Repeat("x", 1<<20)
	many := slices.Repeat([]string{huge}, 1<<20)
	checkNoJoin(t, many, ",")
	checkNoJoin(t, many, "x")
}

func TestPromise29StringFunctionsModifyNothing(t *testing.T) {
	memory := []string{"a", "", "b", "beyond", "the length"}
	before := slices.Clone(memory)
	for _, sep := range []string{",", "a", "", "::"} {
		impl.JoinStrings(memory[:3], sep)
		if !slices.Equal(memory, before) {
			t.Errorf("JoinStrings with %q changed its elements to %q", sep, memory)
		}
	}
	if s, ok := impl.JoinStrings(memory[:2], "y"); !ok || s != "ay" {
		t.Errorf("elements beyond the length count: %q, %v", s, ok)
	}
	first, _ := impl.SplitString("p,q", ",")
	first[0] = "changed"
	if second, ok := impl.SplitString("p,q", ","); !ok || second[0] != "p" || second[1] != "q" {
		t.Errorf("results share memory: %q", second)
	}
}
