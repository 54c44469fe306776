package tests

import (
	"bytes"
	"math"
	"slices"
	"strconv"
	"strings"
	"testing"
	"unsafe"

	"loop.example/g00902/impl"
)

// stringsOver returns all strings of at most length bytes of the alphabet.
func stringsOver(alphabet string, length int) []string {
	all := []string{""}
	last := all
	for range length {
		next := []string{}
		for _, s := range last {
			for i := range len(alphabet) {
				next = append(next, s+alphabet[i:i+1])
			}
		}
		all = append(all, next...)
		last = next
	}
	return all
}

// modelChecksum computes the checksum as the value of a polynomial, not step by step as impl does.
func modelChecksum(s string) int {
	const modulus = 999979
	sum, power := 0, 1
	for i := len(s) - 1; i >= 0; i-- {
		sum = (sum + power*(int(s[i])+1)) % modulus
		power = power * 41 % modulus
	}
	return (sum + power*7) % modulus
}

// fullySealed returns a string whose checksummed form has exactly MaxString bytes.
func fullySealed(t *testing.T) (string, string) {
	t.Helper()
	for length := impl.MaxString - 7; length < impl.MaxString; length++ {
		for _, letter := range []string{"a", "b", "c", "d"} {
			s := strings.Repeat(letter, length)
			sealed := s + "#" + strconv.Itoa(modelChecksum(s))
			if len(sealed) == impl.MaxString {
				return s, sealed
			}
		}
	}
	t.Fatal("no string fills the limit")
	return "", ""
}

func TestFormatIntAndParseIntRoundTrip(t *testing.T) {
	for n := -impl.MaxDecimal; n <= impl.MaxDecimal; n++ {
		s, ok := impl.FormatInt(n)
		if !ok || s != strconv.Itoa(n) {
			t.Fatalf("FormatInt(%d) = %q, %v", n, s, ok)
		}
		m, ok := impl.ParseInt(s)
		if !ok || m != n {
			t.Fatalf("ParseInt(%q) = %d, %v", s, m, ok)
		}
	}
}

func TestFormatIntBeyondLimits(t *testing.T) {
	for _, n := range []int{1000000, -1000000, 1000001, math.MaxInt, math.MinInt, math.MinInt + 1, 1 << 32, -1 << 32} {
		if s, ok := impl.FormatInt(n); ok || s != "" {
			t.Errorf("FormatInt(%d) = %q, %v", n, s, ok)
		}
	}
}

func TestParseIntRejects(t *testing.T) {
	for _, s := range []string{
		"", "-", "+", "--1", "-+1", "+1", "+0", "-0", "-00", "00", "01", "-01", "0000001",
		"1000000", "-1000000", "999999999999999999999999", "-9223372036854775808", "18446744073709551617",
		"1x", "x1", " 1", "1 ", "1\n", "1\x00", "\x001", "1.0", "1e3", "0x1", "0b1", "0o7", "1_000", "1,000",
		"\u0661", "\uff11", "\u22121", "\xff", "nil", strings.Repeat("0", 5000), strings.Repeat("9", 5000),
	} {
		if n, ok := impl.ParseInt(s); ok || n != 0 {
			t.Errorf("ParseInt(%q) = %d, %v", s, n, ok)
		}
	}
}

func TestParseIntAcceptsOnlyWhatFormatIntGives(t *testing.T) {
	numbers := map[string]int{}
	for n := -999; n <= 99999; n++ {
		numbers[strconv.Itoa(n)] = n
	}
	for _, s := range stringsOver("-+0129 _.x", 4) {
		want, is := numbers[s]
		if n, ok := impl.ParseInt(s); ok != is || n != want {
			t.Errorf("ParseInt(%q) = %d, %v", s, n, ok)
		}
	}
}

func TestSplitString(t *testing.T) {
	for _, c := range []struct {
		s, sep string
		want   []string
	}{
		{"a,,b", ",", []string{"a", "", "b"}},
		{"", ",", []string{""}},
		{",", ",", []string{"", ""}},
		{",a", ",", []string{"", "a"}},
		{"a,", ",", []string{"a", ""}},
		{"a;b", ",", []string{"a;b"}},
		{"aaa", "a", []string{"", "", "", ""}},
		{"x\x00y", "\x00", []string{"x", "y"}},
		{"x\xffy", "\xff", []string{"x", "y"}},
		{"\u00e9", "\xa9", []string{"\xc3", ""}},
		{"one two", " ", []string{"one", "two"}},
		{"a\nb\n", "\n", []string{"a", "b", ""}},
	} {
		if got, ok := impl.SplitString(c.s, c.sep); !ok || !slices.Equal(got, c.want) {
			t.Errorf("SplitString(%q, %q) = %q, %v", c.s, c.sep, got, ok)
		}
	}
}

func TestSplitStringRejects(t *testing.T) {
	long := strings.Repeat("a", impl.MaxString+1)
	for _, c := range [][2]string{
		{"a", ""}, {"", ""}, {"a,,b", ",,"}, {"ab", "ab"}, {"x\u00e9y", "\u00e9"}, {"", ",,"},
		{long, ","}, {long, "a"}, {long, ""}, {strings.Repeat("a", 100000), ","},
	} {
		if got, ok := impl.SplitString(c[0], c[1]); ok || len(got) != 0 {
			t.Errorf("SplitString of %d bytes at %q gives %d elements, %v", len(c[0]), c[1], len(got), ok)
		}
	}
}

func TestSplitStringAtTheLimit(t *testing.T) {
	plain := strings.Repeat("a", impl.MaxString)
	if got, ok := impl.SplitString(plain, ","); !ok || !slices.Equal(got, []string{plain}) {
		t.Error("without a separator", len(got), ok)
	}
	got, ok := impl.SplitString(plain, "a")
	if !ok || !slices.Equal(got, make([]string, impl.MaxString+1)) {
		t.Error("separators only", len(got), ok)
	}
	if back, ok := impl.JoinStrings(got, "a"); !ok || back != plain {
		t.Error("joined again", len(back), ok)
	}
}

func TestSplitThenJoin(t *testing.T) {
	for _, s := range stringsOver("ab,;", 6) {
		for _, sep := range []string{",", ";", "a", "#"} {
			parts, ok := impl.SplitString(s, sep)
			if !ok || !slices.Equal(parts, strings.Split(s, sep)) {
				t.Fatalf("SplitString(%q, %q) = %q, %v", s, sep, parts, ok)
			}
			if back, ok := impl.JoinStrings(parts, sep); !ok || back != s {
				t.Fatalf("JoinStrings(%q, %q) = %q, %v", parts, sep, back, ok)
			}
		}
	}
}

func TestJoinThenSplit(t *testing.T) {
	words := stringsOver("a,;", 2)
	lists := [][]string{{}}
	for first := 0; len(lists[first]) < 3; first++ {
		for _, w := range words {
			lists = append(lists, append(slices.Clone(lists[first]), w))
		}
	}
	for _, parts := range lists {
		joined, ok := impl.JoinStrings(parts, ",")
		valid := len(parts) > 0 && !slices.ContainsFunc(parts, func(p string) bool { return strings.Contains(p, ",") })
		if ok != valid || !valid && joined != "" {
			t.Fatalf("JoinStrings(%q) = %q, %v", parts, joined, ok)
		}
		if !valid {
			continue
		}
		if back, ok := impl.SplitString(joined, ","); !ok || !slices.Equal(back, parts) {
			t.Fatalf("SplitString(%q) = %q, %v", joined, back, ok)
		}
	}
}

func TestEveryByteCanSeparate(t *testing.T) {
	for b := range 256 {
		sep, other := string([]byte{byte(b)}), string([]byte{byte(b + 1)})
		joined, ok := impl.JoinStrings([]string{other, "", other + other}, sep)
		if want := other + sep + sep + other + other; !ok || joined != want {
			t.Fatalf("JoinStrings at %q = %q, %v", sep, joined, ok)
		}
		if back, ok := impl.SplitString(joined, sep); !ok || !slices.Equal(back, []string{other, "", other + other}) {
			t.Fatalf("SplitString at %q = %q, %v", sep, back, ok)
		}
	}
}

func TestJoinStringsRejects(t *testing.T) {
	full := strings.Repeat("a", impl.MaxString)
	for _, c := range []struct {
		parts []string
		sep   string
	}{
		{nil, ","}, {[]string{}, ","}, {nil, ""},
		{[]string{"a"}, ""}, {[]string{"a", "b"}, ""}, {[]string{"a", "b"}, ",,"}, {[]string{"a"}, ",,"}, {[]string{"a"}, "\u00e9"},
		{[]string{","}, ","}, {[]string{"a,b"}, ","}, {[]string{",a", "b"}, ","}, {[]string{"a", "b,"}, ","},
		{[]string{"a", "b,c", "d"}, ","}, {[]string{"\u00e9"}, "\xa9"}, {[]string{"", "", "\x00"}, "\x00"},
		{[]string{full + "a"}, ","}, {[]string{full, ""}, ","}, {[]string{"", full}, ","}, {[]string{full, full}, ","},
		{[]string{full[:2000], full[:2000]}, ","}, {make([]string, impl.MaxString+2), ","}, {make([]string, 100000), ","},
	} {
		if got, ok := impl.JoinStrings(c.parts, c.sep); ok || got != "" {
			t.Errorf("JoinStrings of %d elements with %q gives %d bytes, %v", len(c.parts), c.sep, len(got), ok)
		}
	}
}

func TestJoinStringsAtTheLimit(t *testing.T) {
	full := strings.Repeat("a", impl.MaxString)
	for _, parts := range [][]string{
		{full}, {full[1:], ""}, {"", full[1:]}, {full[:2000], full[:1999]}, make([]string, impl.MaxString+1),
	} {
		got, ok := impl.JoinStrings(parts, ",")
		if !ok || got != strings.Join(parts, ",") || len(got) != impl.MaxString {
			t.Errorf("JoinStrings of %d elements gives %d bytes, %v", len(parts), len(got), ok)
		}
		if back, ok := impl.SplitString(got, ","); !ok || !slices.Equal(back, parts) {
			t.Errorf("SplitString gives %d of %d elements, %v", len(back), len(parts), ok)
		}
	}
}

func TestJoinStringsReadsOnlyItsElements(t *testing.T) {
	store := []string{"a", "b", ",", "d"}
	if got, ok := impl.JoinStrings(store[:2], ","); !ok || got != "a,b" {
		t.Errorf("JoinStrings = %q, %v", got, ok)
	}
	if !slices.Equal(store, []string{"a", "b", ",", "d"}) {
		t.Error("the argument was changed", store)
	}
}

func TestResultsShareNoMemoryWithArguments(t *testing.T) {
	within := func(part, whole string) bool {
		start := uintptr(unsafe.Pointer(unsafe.StringData(whole)))
		at := uintptr(unsafe.Pointer(unsafe.StringData(part)))
		return part != "" && at >= start && at < start+uintptr(len(whole))
	}
	s := strings.Repeat("word,", 3)
	parts, _ := impl.SplitString(s, ",")
	for _, p := range parts {
		if within(p, s) {
			t.Error("SplitString shares memory")
		}
	}
	if joined, _ := impl.JoinStrings([]string{s}, ";"); within(joined, s) {
		t.Error("JoinStrings shares memory")
	}
	sealed, _ := impl.AppendChecksum(s)
	if opened, _ := impl.VerifyChecksum(sealed); within(opened, sealed) {
		t.Error("VerifyChecksum shares memory")
	}
}

func TestLessString(t *testing.T) {
	all := append(stringsOver("\x00aA\x7f\x80\xff", 3), "\u00e9", "z\u00e9", strings.Repeat("a", 5000), strings.Repeat("a", 5001))
	for _, a := range all {
		for _, b := range all {
			if want := bytes.Compare([]byte(a), []byte(b)) < 0; impl.LessString(a, b) != want {
				t.Fatalf("LessString(%q, %q) is not %v", a, b, want)
			}
		}
	}
}

func TestChecksumValues(t *testing.T) {
	every := make([]byte, 256)
	for i := range every {
		every[i] = byte(i)
	}
	for _, c := range []struct {
		s    string
		want int
	}{
		{"", 7}, {"a", 385}, {"b", 386}, {"ab", 15884}, {"ba", 15924}, {"\x00", 288}, {"\xff", 543}, {"contract", 665025},
		{string(every), 750103}, {strings.Repeat("x", impl.MaxString), 185545}, {strings.Repeat("\xff", impl.MaxString), 55992},
	} {
		if n, ok := impl.Checksum(c.s); !ok || n != c.want || n != modelChecksum(c.s) {
			t.Errorf("Checksum(%.20q) = %d, %v, not %d", c.s, n, ok, c.want)
		}
	}
	for _, s := range stringsOver("\x00#a\xff", 5) {
		if n, ok := impl.Checksum(s); !ok || n != modelChecksum(s) {
			t.Fatalf("Checksum(%q) = %d, %v", s, n, ok)
		}
	}
}

func TestChecksumOfTooLongStrings(t *testing.T) {
	for _, length := range []int{impl.MaxString + 1, impl.MaxString + 2, 100000} {
		if n, ok := impl.Checksum(strings.Repeat("x", length)); ok || n != 0 {
			t.Errorf("Checksum of %d bytes = %d, %v", length, n, ok)
		}
	}
}

func TestAppendChecksumThenVerify(t *testing.T) {
	for _, s := range append(stringsOver("\x007a-\xff", 5), "pay 100", "\u00e9", strings.Repeat("b", 3000)) {
		sealed, ok := impl.AppendChecksum(s)
		if !ok || sealed != s+"#"+strconv.Itoa(modelChecksum(s)) {
			t.Fatalf("AppendChecksum(%.20q) = %.40q, %v", s, sealed, ok)
		}
		if opened, ok := impl.VerifyChecksum(sealed); !ok || opened != s {
			t.Fatalf("VerifyChecksum(%.40q) = %.20q, %v", sealed, opened, ok)
		}
	}
}

func TestAppendChecksumRejects(t *testing.T) {
	for _, s := range []string{
		"#", "a#", "#a", "a#b", "##", "a#385",
		strings.Repeat("x", impl.MaxString), strings.Repeat("x", impl.MaxString-1), strings.Repeat("x", impl.MaxString+1), strings.Repeat("x", 100000),
		strings.Repeat("x", impl.MaxString+1) + "#",
	} {
		if got, ok := impl.AppendChecksum(s); ok || got != "" {
			t.Errorf("AppendChecksum of %d bytes = %.20q, %v", len(s), got, ok)
		}
	}
}

func TestChecksummedStringsAtTheLimit(t *testing.T) {
	s, want := fullySealed(t)
	if sealed, ok := impl.AppendChecksum(s); !ok || sealed != want {
		t.Error("of MaxString bytes", len(sealed), ok)
	}
	if opened, ok := impl.VerifyChecksum(want); !ok || opened != s {
		t.Error("opened again", len(opened), ok)
	}
	for _, letter := range []string{"a", "b", "c", "d", "e", "f"} {
		for length := impl.MaxString - 8; length <= impl.MaxString+1; length++ {
			s := strings.Repeat(letter, length)
			sealed := s + "#" + strconv.Itoa(modelChecksum(s))
			fits := len(sealed) <= impl.MaxString
			if got, ok := impl.AppendChecksum(s); ok != fits || fits && got != sealed || !fits && got != "" {
				t.Errorf("AppendChecksum of %d bytes gives %d, %v", length, len(got), ok)
			}
			if got, ok := impl.VerifyChecksum(sealed); ok != fits || fits && got != s || !fits && got != "" {
				t.Errorf("VerifyChecksum of %d bytes gives %d, %v", len(sealed), len(got), ok)
			}
		}
	}
}

func TestEverySingleChangedByteIsDetected(t *testing.T) {
	for _, s := range []string{"", "a", "7", "\x00\xff", "party pays 100", "\u00e9t\u00e9", strings.Repeat("ab", 50)} {
		sealed, ok := impl.AppendChecksum(s)
		if !ok {
			t.Fatalf("AppendChecksum(%q) failed", s)
		}
		for i := range len(sealed) {
			for b := range 256 {
				if byte(b) == sealed[i] {
					continue
				}
				changed := sealed[:i] + string([]byte{byte(b)}) + sealed[i+1:]
				if got, ok := impl.VerifyChecksum(changed); ok || got != "" {
					t.Errorf("VerifyChecksum(%q) = %q, %v, changed at %d", changed, got, ok, i)
				}
			}
		}
	}
}

func TestChangedBytesOfTheLongestStringAreDetected(t *testing.T) {
	_, sealed := fullySealed(t)
	for i := range len(sealed) {
		for _, change := range []byte{1, 2, 0x80, 0xff, sealed[i] ^ '#'} {
			changed := []byte(sealed)
			changed[i] ^= change
			if string(changed) == sealed {
				continue
			}
			if got, ok := impl.VerifyChecksum(string(changed)); ok || got != "" {
				t.Errorf("a change of %#x at %d is not detected", change, i)
			}
		}
	}
}

func TestVerifyChecksumRejects(t *testing.T) {
	for _, s := range []string{
		"", "a", "7", "#", "##", "a#", "#385", "a#384", "b#385", "a385", "a#385#", "a#385#1", "#a#385", "a##385",
		"a#0385", "a#+385", "a#-385", "a# 385", "a#385 ", "a#385\n", "a #385", "a#385a", "a#3 85", "a#0x181",
		"#07", "#+7", "#-0", "#999986", "#-999972", "a#-999594", "a#1000364",
		strings.Repeat("x", 3994) + "#", strings.Repeat("#", impl.MaxString), strings.Repeat("#", 100000), strings.Repeat("x", 100000),
	} {
		if got, ok := impl.VerifyChecksum(s); ok || got != "" {
			t.Errorf("VerifyChecksum(%.20q) = %q, %v", s, got, ok)
		}
	}
}

func TestVerifyChecksumAcceptsOnlyWhatAppendChecksumGives(t *testing.T) {
	sealedOf := map[string]string{}
	for _, s := range stringsOver("#2378", 5) {
		if !strings.Contains(s, "#") {
			sealedOf[s+"#"+strconv.Itoa(modelChecksum(s))] = s
		}
	}
	for _, s := range stringsOver("#2378", 6) {
		want, is := sealedOf[s]
		if got, ok := impl.VerifyChecksum(s); ok != is || got != want {
			t.Fatalf("VerifyChecksum(%q) = %q, %v", s, got, ok)
		}
	}
}
