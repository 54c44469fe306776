package impl

import (
	"iter"
	"strconv"
	"strings"
)

const MaxString = 4000
const MaxDecimal = 999999

const (
	checksumStart   = 7
	checksumFactor  = 41
	checksumModulus = 999979
	checksumMark    = "#"
)

// FormatInt returns the decimal representation of n and true. If n is outside
// -MaxDecimal..MaxDecimal it returns the empty string and false. The representation has no
// leading zeros; a negative number starts with `-`.
func FormatInt(n int) (string, bool) {
	if n < -MaxDecimal || n > MaxDecimal {
		return "", false
	}
	return strconv.Itoa(n), true
}

// ParseInt is the inverse of FormatInt: it returns the integer n for which FormatInt(n) is s,
// and true. For any other string, including strings with leading zeros, a leading `+`, or `-0`,
// it returns 0 and false.
func ParseInt(s string) (int, bool) {
	n, err := strconv.Atoi(s)
	if err != nil {
		return 0, false
	}
	// Atoi also accepts other spellings of a number; only the one of FormatInt is valid.
	spelling, ok := FormatInt(n)
	if !ok || spelling != s {
		return 0, false
	}
	return n, true
}

// SplitString splits s, which must have at most MaxString bytes, at every occurrence of the
// single-byte separator sep, and returns the substrings between the separators in order, and
// true. The result has one element more than s has separators, so the empty string yields one
// empty element. If s is too long or sep does not consist of exactly one byte, it returns an
// empty slice and false.
func SplitString(s string, sep string) ([]string, bool) {
	if len(s) > MaxString || len(sep) != 1 {
		return []string{}, false
	}
	parts := []string{}
	for piece := range pieces(s, sep[0]) {
		// A substring shares the memory of s; a result must not.
		parts = append(parts, strings.Clone(piece))
	}
	return parts, true
}

// pieces yields the substrings of s between the occurrences of sep, in order.
func pieces(s string, sep byte) iter.Seq[string] {
	return func(yield func(string) bool) {
		start := 0
		for i := range len(s) {
			if s[i] != sep {
				continue
			}
			if !yield(s[start:i]) {
				return
			}
			start = i + 1
		}
		yield(s[start:])
	}
}

// JoinStrings is the inverse of SplitString: it returns the elements of parts concatenated with
// sep between consecutive elements, and true. It returns the empty string and false if parts is
// empty, if sep does not consist of exactly one byte, if an element contains sep, or if the
// result would have more than MaxString bytes.
func JoinStrings(parts []string, sep string) (string, bool) {
	if len(parts) == 0 || len(sep) != 1 {
		return "", false
	}
	if !fitsJoined(parts) || containsByte(parts, sep[0]) {
		return "", false
	}
	// strings.Join would return a single element itself, which shares memory with parts.
	var joined strings.Builder
	for i, part := range parts {
		if i > 0 {
			joined.WriteString(sep)
		}
		joined.WriteString(part)
	}
	return joined.String(), true
}

// fitsJoined reports whether the parts, with one byte between consecutive ones, have at most
// MaxString bytes.
func fitsJoined(parts []string) bool {
	size := len(parts) - 1
	for _, part := range parts {
		size += len(part)
		// Stopping at the limit keeps the sum small, whatever follows.
		if size > MaxString {
			return false
		}
	}
	return true
}

// containsByte reports whether one of the parts contains b.
func containsByte(parts []string, b byte) bool {
	found := false
search:
	for _, part := range parts {
		for i := range len(part) {
			if part[i] == b {
				found = true
				break search
			}
		}
	}
	return found
}

// LessString reports whether a is lexicographically less than b, comparing byte by byte; a
// proper prefix is less than the longer string.
func LessString(a string, b string) bool { return a < b }

// Checksum returns the checksum of s and true. The checksum starts at 7 and is updated for
// every byte c of s, in order, to (41*h + c + 1) modulo 999979. If s has more than MaxString
// bytes, it returns 0 and false.
func Checksum(s string) (int, bool) {
	if len(s) > MaxString {
		return 0, false
	}
	h := checksumStart
	for i := range len(s) {
		h = (checksumFactor*h + int(s[i]) + 1) % checksumModulus
	}
	return h, true
}

// AppendChecksum returns s followed by `#` and the decimal checksum of s, and true. It returns
// the empty string and false if s contains `#` or if s or the result has more than MaxString
// bytes.
func AppendChecksum(s string) (string, bool) {
	sum, ok := Checksum(s)
	if !ok || strings.Contains(s, checksumMark) {
		return "", false
	}
	digits, ok := FormatInt(sum)
	if !ok || len(s)+len(checksumMark)+len(digits) > MaxString {
		return "", false
	}
	return s + checksumMark + digits, true
}

// VerifyChecksum is the inverse of AppendChecksum: it returns the string t for which
// AppendChecksum(t) is s, and true. If there is no such string, it returns the empty string and
// false.
func VerifyChecksum(s string) (string, bool) {
	// A checksummed string contains only one mark, so the first one ends the only candidate.
	candidate, _, _ := strings.Cut(s, checksumMark)
	sealed, ok := AppendChecksum(candidate)
	if !ok || sealed != s {
		return "", false
	}
	return strings.Clone(candidate), true
}
