package tests

import (
	"bytes"
	"math"
	"slices"
	"strconv"
	"strings"
	"testing"

	"loop.example/g01148/impl"
)

// short names one text within an error message, however long it is.
func short(s string) string {
	if len(s) > 40 {
		return strconv.Quote(s[:20]) + ".. of " + strconv.Itoa(len(s)) + " bytes"
	}
	return strconv.Quote(s)
}

// wordsOver returns all strings of at most n bytes of the alphabet.
func wordsOver(alphabet string, n int) []string {
	words := []string{""}
	last := words
	for range n {
		next := []string{}
		for _, w := range last {
			for i := range len(alphabet) {
				next = append(next, w+alphabet[i:i+1])
			}
		}
		words = append(words, next...)
		last = next
	}
	return words
}

func wantInt(t *testing.T, s string, want int) {
	t.Helper()
	if n, ok := impl.ParseInt(s); !ok || n != want {
		t.Errorf("ParseInt(%s) = %d, %v; want %d, true", short(s), n, ok, want)
	}
}

func wantNoInt(t *testing.T, s string) {
	t.Helper()
	if n, ok := impl.ParseInt(s); ok || n != 0 {
		t.Errorf("ParseInt(%s) = %d, %v; want 0, false", short(s), n, ok)
	}
}

func wantSplit(t *testing.T, s string, sep string, want []string) {
	t.Helper()
	parts, ok := impl.SplitString(s, sep)
	if !ok || !slices.Equal(parts, want) {
		t.Errorf("SplitString(%s, %q) = %d parts %.60q, %v; want %d parts", short(s), sep, len(parts), parts, ok, len(want))
	}
}

func wantNoSplit(t *testing.T, s string, sep string) {
	t.Helper()
	if parts, ok := impl.SplitString(s, sep); ok || len(parts) != 0 {
		t.Errorf("SplitString(%s, %q) = %d parts, %v; want none, false", short(s), sep, len(parts), ok)
	}
}

func wantJoined(t *testing.T, parts []string, sep string, want string) {
	t.Helper()
	if s, ok := impl.JoinStrings(parts, sep); !ok || s != want {
		t.Errorf("JoinStrings(%d parts %.60q, %q) = %s, %v; want %s, true", len(parts), parts, sep, short(s), ok, short(want))
	}
}

func wantNotJoined(t *testing.T, parts []string, sep string) {
	t.Helper()
	if s, ok := impl.JoinStrings(parts, sep); ok || s != "" {
		t.Errorf("JoinStrings(%d parts %.60q, %q) = %s, %v; want \"\", false", len(parts), parts, sep, short(s), ok)
	}
}

func wantSealed(t *testing.T, s string, want string) {
	t.Helper()
	if sealed, ok := impl.AppendChecksum(s); !ok || sealed != want {
		t.Errorf("AppendChecksum(%s) = %s, %v; want %s, true", short(s), short(sealed), ok, short(want))
	}
	if text, ok := impl.VerifyChecksum(want); !ok || text != s {
		t.Errorf("VerifyChecksum(%s) = %s, %v; want %s, true", short(want), short(text), ok, short(s))
	}
}

func wantNotSealed(t *testing.T, s string) {
	t.Helper()
	if sealed, ok := impl.AppendChecksum(s); ok || sealed != "" {
		t.Errorf("AppendChecksum(%s) = %s, %v; want \"\", false", short(s), short(sealed), ok)
	}
}

func wantNotVerified(t *testing.T, s string) {
	t.Helper()
	if text, ok := impl.VerifyChecksum(s); ok || text != "" {
		t.Errorf("VerifyChecksum(%s) = %s, %v; want \"\", false", short(s), short(text), ok)
	}
}

// sumOf is a checksum by the document's rule, from the last byte back: each byte counts with
// the power of 41 of the bytes behind it.
func sumOf(s string) int {
	sum, power := 0, 1
	for i := len(s) - 1; i >= 0; i-- {
		sum = (sum + (int(s[i])+1)*power) % 999979
		power = 41 * power % 999979
	}
	return (sum + 7*power) % 999979
}

// textWithSum returns a text of n bytes whose checksum has so many digits.
func textWithSum(t *testing.T, n int, digits int) string {
	t.Helper()
	// The first bytes change the checksum of a long text more widely than the last ones.
	for _, start := range wordsOver("abcdefghijklmnopqrstuvwxyz", 3) {
		s := start + strings.Repeat("x", n-len(start))
		if len(strconv.Itoa(sumOf(s))) == digits {
			return s
		}
	}
	t.Fatal("no text with such a checksum:", n, digits)
	return ""
}

func TestLimitsOfStrings(t *testing.T) {
	if impl.MaxString != 4000 || impl.MaxDecimal != 999999 {
		t.Error("limits", impl.MaxString, impl.MaxDecimal)
	}
}

func TestNumbersRoundTrip(t *testing.T) {
	for n := -999999; n <= 999999; n++ {
		s, ok := impl.FormatInt(n)
		if !ok || s != strconv.Itoa(n) {
			t.Fatalf("FormatInt(%d) = %q, %v", n, s, ok)
		}
		m, ok := impl.ParseInt(s)
		if !ok || m != n {
			t.Fatalf("ParseInt(%q) = %d, %v; want %d, true", s, m, ok, n)
		}
	}
}

func TestFormatIntOfKnownNumbers(t *testing.T) {
	known := map[int]string{0: "0", 7: "7", -7: "-7", -12: "-12", 100: "100", 999999: "999999", -999999: "-999999"}
	for n, want := range known {
		if s, ok := impl.FormatInt(n); !ok || s != want {
			t.Errorf("FormatInt(%d) = %q, %v; want %q, true", n, s, ok, want)
		}
		wantInt(t, want, n)
	}
}

func TestFormatIntOutside(t *testing.T) {
	for _, n := range []int{1000000, -1000000, 1000001, -1000001, 1 << 32, -1 << 32, math.MaxInt, math.MinInt, math.MinInt + 1} {
		if s, ok := impl.FormatInt(n); ok || s != "" {
			t.Errorf("FormatInt(%d) = %q, %v; want \"\", false", n, s, ok)
		}
	}
}

func TestParseIntOfOtherStrings(t *testing.T) {
	others := []string{
		"", "-", "+", "--", "-0", "+0", "00", "-00", "01", "-01", "+1", "+12", "007", "0000001", "--1", "-+1", "+-1",
		"1000000", "-1000000", "1000001", "9999999", "0999999", "-0999999",
		"9223372036854775807", "-9223372036854775808", "9223372036854775808", "18446744073709551616", "18446744073709551617",
		" 1", "1 ", " ", "1 2", "\n1", "1\n", "1\x00", "\x001", "1x", "x1", "x", "1.0", "1.", ".1", "1e3", "1_000", "_1", "1_",
		"0x1", "0b1", "0o1", "0x", "1,000", "1-", "1-2", "2-", "a", "\xff", "\u0661", "\u22121", "\uff11",
		strings.Repeat("0", 5000), strings.Repeat("9", 5000), "-" + strings.Repeat("1", 5000),
	}
	for _, s := range others {
		wantNoInt(t, s)
	}
}

// TestParseIntOfShortStrings holds ParseInt against all that FormatInt can return.
func TestParseIntOfShortStrings(t *testing.T) {
	numbers := map[string]int{}
	for n := -99999; n <= 99999; n++ {
		s, _ := impl.FormatInt(n)
		numbers[s] = n
	}
	for _, s := range wordsOver("-+0129 _", 5) {
		if n, ok := numbers[s]; ok {
			wantInt(t, s, n)
		} else {
			wantNoInt(t, s)
		}
	}
}

func TestSplitStringOrdinary(t *testing.T) {
	wantSplit(t, "a,,b", ",", []string{"a", "", "b"})
	wantSplit(t, "", ",", []string{""})
	wantSplit(t, ",", ",", []string{"", ""})
	wantSplit(t, ",,", ",", []string{"", "", ""})
	wantSplit(t, "abc", ",", []string{"abc"})
	wantSplit(t, ",a", ",", []string{"", "a"})
	wantSplit(t, "a,", ",", []string{"a", ""})
	wantSplit(t, "one two  three", " ", []string{"one", "two", "", "three"})
	wantSplit(t, "a,b;c", ";", []string{"a,b", "c"})
	wantSplit(t, "aXbxc", "x", []string{"aXb", "c"})
	wantSplit(t, "a.b", ".", []string{"a", "b"})
	wantSplit(t, "a\nb\n", "\n", []string{"a", "b", ""})
	wantSplit(t, "a\x00b", "\x00", []string{"a", "b"})
	wantSplit(t, "a\xffb\xfe", "\xff", []string{"a", "b\xfe"})
	wantSplit(t, "\u00e9", "\xc3", []string{"", "\xa9"})
}

func TestSplitStringSeparators(t *testing.T) {
	for _, sep := range []string{"", ",,", ", ", "\u00e9", ",\x00", "\u20ac", strings.Repeat(",", 5000)} {
		for _, s := range []string{"", "a", "a,b", "a,,b", sep} {
			wantNoSplit(t, s, sep)
		}
	}
}

func TestSplitStringLengths(t *testing.T) {
	long := strings.Repeat("x", 4000)
	wantSplit(t, long, ",", []string{long})
	wantSplit(t, strings.Repeat("x", 3999)+",", ",", []string{strings.Repeat("x", 3999), ""})
	wantSplit(t, strings.Repeat(",", 4000), ",", make([]string, 4001))
	for _, n := range []int{4001, 4002, 100000} {
		wantNoSplit(t, strings.Repeat("x", n), ",")
		wantNoSplit(t, strings.Repeat(",", n), ",")
	}
}

func TestJoinStringsOrdinary(t *testing.T) {
	wantJoined(t, []string{"a", "", "b"}, ";", "a;;b")
	wantJoined(t, []string{""}, ",", "")
	wantJoined(t, []string{"", ""}, ",", ",")
	wantJoined(t, []string{"", "", ""}, ",", ",,")
	wantJoined(t, []string{"abc"}, ",", "abc")
	wantJoined(t, []string{"a;b", "c"}, ",", "a;b,c")
	wantJoined(t, []string{"x", "X"}, "\n", "x\nX")
	wantJoined(t, []string{"a", "b"}, "\xff", "a\xffb")
	wantJoined(t, []string{"a", "b"}, "\x00", "a\x00b")
	wantJoined(t, []string{"same", "same"}, " ", "same same")
}

func TestJoinStringsInvalid(t *testing.T) {
	for _, sep := range []string{",", "", ",,"} {
		wantNotJoined(t, nil, sep)
		wantNotJoined(t, []string{}, sep)
	}
	for _, sep := range []string{"", ",,", ", ", "\u00e9"} {
		wantNotJoined(t, []string{""}, sep)
		wantNotJoined(t, []string{"a"}, sep)
		wantNotJoined(t, []string{"a", "b"}, sep)
	}
	for _, parts := range [][]string{{","}, {"a,b"}, {"a", "b,"}, {",a", "b"}, {"a", "b,c", "d"}, {"", "", ","}, {",", ","}} {
		wantNotJoined(t, parts, ",")
	}
	wantNotJoined(t, []string{"a", "\u00e9"}, "\xa9")
}

func TestJoinStringsLengths(t *testing.T) {
	wantJoined(t, []string{strings.Repeat("x", 4000)}, ",", strings.Repeat("x", 4000))
	wantNotJoined(t, []string{strings.Repeat("x", 4001)}, ",")
	wantJoined(t, []string{strings.Repeat("x", 2000), strings.Repeat("y", 1999)}, ",", strings.Repeat("x", 2000)+","+strings.Repeat("y", 1999))
	wantNotJoined(t, []string{strings.Repeat("x", 2000), strings.Repeat("y", 2000)}, ",")
	wantJoined(t, make([]string, 4001), ",", strings.Repeat(",", 4000))
	wantNotJoined(t, make([]string, 4002), ",")
	wantNotJoined(t, slices.Repeat([]string{strings.Repeat("x", 1000)}, 100000), ",")
}

// TestSplitJoinRoundTrip splits and joins all short texts, and joins and splits all short lists.
func TestSplitJoinRoundTrip(t *testing.T) {
	for _, s := range wordsOver(",;a", 6) {
		for _, sep := range []string{",", ";", "a", "z"} {
			parts, ok := impl.SplitString(s, sep)
			if !ok || len(parts) != strings.Count(s, sep)+1 {
				t.Fatalf("SplitString(%q, %q) = %q, %v", s, sep, parts, ok)
			}
			wantJoined(t, parts, sep, s)
		}
	}
	words := wordsOver("ab,", 2)
	for _, a := range words {
		for _, b := range words {
			for _, c := range words {
				checkJoinSplit(t, []string{a, b, c})
			}
			checkJoinSplit(t, []string{a, b})
		}
		checkJoinSplit(t, []string{a})
	}
}

func checkJoinSplit(t *testing.T, parts []string) {
	t.Helper()
	for _, sep := range []string{",", "b", ";"} {
		s, ok := impl.JoinStrings(parts, sep)
		if slices.ContainsFunc(parts, func(p string) bool { return strings.Contains(p, sep) }) {
			wantNotJoined(t, parts, sep)
		} else if !ok {
			t.Errorf("JoinStrings(%q, %q) fails", parts, sep)
		} else {
			wantSplit(t, s, sep, parts)
		}
	}
}

func TestPartsAreKeptApart(t *testing.T) {
	parts := []string{"a", "", "b"}
	impl.JoinStrings(parts, ";")
	impl.JoinStrings(parts, "b")
	if !slices.Equal(parts, []string{"a", "", "b"}) {
		t.Error("argument modified", parts)
	}
	first, _ := impl.SplitString("a,b", ",")
	first[0] = "changed"
	wantSplit(t, "a,b", ",", []string{"a", "b"})
}

func TestLessString(t *testing.T) {
	for _, p := range [][2]string{{"a", "ab"}, {"", "\x00"}, {"", "a"}, {"A", "a"}, {"Z", "a"}, {"10", "9"}, {"a", "b"}, {"ab", "b"}, {"z", "\u00e9"}, {"\x7f", "\x80"}, {"\x00", "\xff"}, {"a\x00", "aa"}} {
		if !impl.LessString(p[0], p[1]) || impl.LessString(p[1], p[0]) {
			t.Errorf("%q is not less than %q", p[0], p[1])
		}
	}
	words := wordsOver("\x00aA\x80\xff", 3)
	for _, a := range words {
		for _, b := range words {
			if impl.LessString(a, b) != (bytes.Compare([]byte(a), []byte(b)) < 0) {
				t.Fatalf("LessString(%q, %q)", a, b)
			}
		}
	}
}

func TestLessStringLong(t *testing.T) {
	long := strings.Repeat("x", 5000)
	if impl.LessString(long, long) || !impl.LessString(long, long+"a") || impl.LessString(long+"a", long) {
		t.Error("long prefix")
	}
	if !impl.LessString(long+"a", long+"b") || impl.LessString(long+"b", long+"a") {
		t.Error("long strings that differ at the end")
	}
}

func TestChecksumOfKnownStrings(t *testing.T) {
	// "ab" is 41*385 + 98 + 1, and "abc" is 41*15884 + 99 + 1; "abcd" exceeds the modulus.
	known := map[string]int{"": 7, "\x00": 288, "a": 385, "#": 323, "\xff": 543, "ab": 15884, "abc": 651344, "abcd": (41*651344 + 101) % 999979}
	for s, want := range known {
		if sum, ok := impl.Checksum(s); !ok || sum != want {
			t.Errorf("Checksum(%q) = %d, %v; want %d, true", s, sum, ok, want)
		}
	}
}

func TestChecksumLengths(t *testing.T) {
	for _, s := range []string{"walkers on lines and rings", strings.Repeat("\xff", 4000), strings.Repeat("#", 4000), strings.Repeat("\x00", 3999), strings.Repeat("line 24 0,1,2\n", 200)} {
		if sum, ok := impl.Checksum(s); !ok || sum != sumOf(s) {
			t.Errorf("Checksum(%s) = %d, %v; want %d, true", short(s), sum, ok, sumOf(s))
		}
	}
	for _, n := range []int{4001, 4002, 100000} {
		if sum, ok := impl.Checksum(strings.Repeat("x", n)); ok || sum != 0 {
			t.Errorf("Checksum of %d bytes = %d, %v; want 0, false", n, sum, ok)
		}
	}
}

func TestAppendChecksumOrdinary(t *testing.T) {
	wantSealed(t, "a", "a#385")
	wantSealed(t, "", "#7")
	wantSealed(t, "ab", "ab#15884")
	wantSealed(t, "abc", "abc#651344")
	wantSealed(t, "\xff", "\xff#543")
	for _, s := range wordsOver("a \n\x00\xff", 4) {
		wantSealed(t, s, s+"#"+strconv.Itoa(sumOf(s)))
	}
}

func TestAppendChecksumWithMark(t *testing.T) {
	for _, s := range []string{"#", "a#", "#a", "a#b", "##", "a#385", strings.Repeat("x", 3900) + "#", strings.Repeat("#", 4001)} {
		wantNotSealed(t, s)
	}
}

func TestAppendChecksumLengths(t *testing.T) {
	for digits := 4; digits <= 6; digits++ {
		fits := textWithSum(t, 3999-digits, digits)
		sealed := fits + "#" + strconv.Itoa(sumOf(fits))
		if len(sealed) != 4000 {
			t.Fatal("length", len(sealed))
		}
		wantSealed(t, fits, sealed)
		over := textWithSum(t, 4000-digits, digits)
		wantNotSealed(t, over)
		wantNotVerified(t, over+"#"+strconv.Itoa(sumOf(over)))
	}
	for _, n := range []int{3999, 4000, 4001, 4002, 100000} {
		s := strings.Repeat("x", n)
		wantNotSealed(t, s)
		wantNotVerified(t, s+"#"+strconv.Itoa(sumOf(s)))
		wantNotVerified(t, s)
	}
}

func TestVerifyChecksumOfOtherStrings(t *testing.T) {
	others := []string{
		"", "#", "a", "385", "a#", "a#384", "a#386", "a#0385", "a#+385", "a#-385", "a# 385", "a#385 ", "a#385\n", "a #385",
		"a385", "a##385", "#a#385", "a#385#", "a#385#1", "b#385", "A#385", "#8", "#07", "#-0", "#0", "##7", "7#7", "7",
		"a#" + strconv.Itoa(385+999979), "a#" + strconv.Itoa(385-999979), "a#3", "a#38", "a#3850", "a#x",
		strings.Repeat("#", 5000), strings.Repeat("a", 5000), "a#" + strings.Repeat("0", 5000) + "385",
	}
	for _, s := range others {
		wantNotVerified(t, s)
	}
}

// TestVerifyChecksumOfShortStrings holds VerifyChecksum against the rule of AppendChecksum.
func TestVerifyChecksumOfShortStrings(t *testing.T) {
	sealed := 0
	for _, s := range wordsOver("03578#a", 6) {
		text, digits, found := strings.Cut(s, "#")
		if found && digits == strconv.Itoa(sumOf(text)) {
			sealed++
			wantSealed(t, text, s)
		} else {
			wantNotVerified(t, s)
		}
	}
	if sealed < 2 {
		t.Error("too few checksummed strings:", sealed)
	}
}

// TestChangedByteIsDetected changes each byte of checksummed strings to each other value.
func TestChangedByteIsDetected(t *testing.T) {
	texts := []string{"", "a", "ab", "385", "0", "line 5 0,1,2,3,4", "step 1@2", "\x00\xff\x80", "tab\tand\nline", strings.Repeat("walk ", 40), strings.Repeat("\xff", 100)}
	for _, s := range texts {
		checkChangedBytes(t, s, 1)
	}
	checkChangedBytes(t, strings.Repeat("x", 3993), 97)
}

// checkChangedBytes changes each byte whose distance from the end is less than 20, and of the
// others each step-th one.
func checkChangedBytes(t *testing.T, s string, step int) {
	t.Helper()
	sealed, ok := impl.AppendChecksum(s)
	if text, fine := impl.VerifyChecksum(sealed); !ok || !fine || text != s {
		t.Fatalf("no round trip of %s", short(s))
	}
	for i := range len(sealed) {
		if i%step != 0 && i < len(sealed)-20 {
			continue
		}
		for delta := 1; delta < 256; delta++ {
			changed := []byte(sealed)
			changed[i] += byte(delta)
			wantNotVerified(t, string(changed))
		}
	}
}
