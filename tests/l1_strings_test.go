package tests

import (
	"math"
	"slices"
	"strconv"
	"strings"
	"testing"

	"loop.example/g00933/impl"
)

func TestStringLimits(t *testing.T) {
	if impl.MaxString != 4000 || impl.MaxDecimal != 999999 {
		t.Error("limits", impl.MaxString, impl.MaxDecimal)
	}
}

func TestFormatIntWritesPlainDecimals(t *testing.T) {
	cases := []struct {
		n    int
		want string
	}{
		{0, "0"}, {7, "7"}, {-1, "-1"}, {-12, "-12"}, {10, "10"}, {1000, "1000"},
		{impl.MaxDecimal, "999999"}, {-impl.MaxDecimal, "-999999"},
	}
	for _, c := range cases {
		if got, ok := impl.FormatInt(c.n); !ok || got != c.want {
			t.Errorf("FormatInt(%d) = %q, %v", c.n, got, ok)
		}
	}
}

func TestFormatIntRefusesOutsideOfLimits(t *testing.T) {
	for _, n := range []int{impl.MaxDecimal + 1, -impl.MaxDecimal - 1, 10000000, math.MaxInt, math.MinInt} {
		if got, ok := impl.FormatInt(n); ok || got != "" {
			t.Errorf("FormatInt(%d) = %q, %v", n, got, ok)
		}
	}
}

func TestParseIntInvertsFormatInt(t *testing.T) {
	for n := -impl.MaxDecimal; n <= impl.MaxDecimal; n++ {
		s, ok := impl.FormatInt(n)
		if !ok || s != strconv.Itoa(n) {
			t.Fatalf("FormatInt(%d) = %q, %v", n, s, ok)
		}
		if got, ok := impl.ParseInt(s); !ok || got != n {
			t.Fatalf("ParseInt(%q) = %d, %v", s, got, ok)
		}
	}
}

func TestParseIntRefusesOtherStrings(t *testing.T) {
	cases := []string{
		"", "-", "+", "--1", "-0", "+0", "+1", "00", "01", "-01", "000001", "-00",
		"1000000", "-1000000", "0999999", "99999999999999999999", "-99999999999999999999",
		"9223372036854775807", "-9223372036854775808", "18446744073709551617",
		"x", "1x", "x1", "1 ", " 1", "1\n", "\x001", "1.0", "1e3", "0x1", "0b1", "1_000", "1-",
		"\u0661", "\u2212\u0031", "\xff", strings.Repeat("1", impl.MaxString+1),
	}
	for _, s := range cases {
		if got, ok := impl.ParseInt(s); ok || got != 0 {
			t.Errorf("ParseInt(%q) = %d, %v", s, got, ok)
		}
	}
}

// TestParseIntOnAllShortStrings leaves no short spelling out: only FormatInt's own is accepted.
func TestParseIntOnAllShortStrings(t *testing.T) {
	known := map[string]int{}
	for n := -99; n <= 999; n++ {
		known[strconv.Itoa(n)] = n
	}
	signs := "+-0123456789a. _"
	check := func(s string) {
		want, is := known[s]
		if got, ok := impl.ParseInt(s); ok != is || got != want {
			t.Errorf("ParseInt(%q) = %d, %v", s, got, ok)
		}
	}
	for _, a := range signs {
		check(string(a))
		for _, b := range signs {
			check(string(a) + string(b))
			for _, c := range signs {
				check(string(a) + string(b) + string(c))
			}
		}
	}
}

var splitCases = []struct {
	s, sep string
	parts  []string
}{
	{"a,,b", ",", []string{"a", "", "b"}},
	{"a;;b", ";", []string{"a", "", "b"}},
	{"", ",", []string{""}},
	{",", ",", []string{"", ""}},
	{",,,", ",", []string{"", "", "", ""}},
	{",a", ",", []string{"", "a"}},
	{"a,", ",", []string{"a", ""}},
	{"one", ",", []string{"one"}},
	{"one two three", " ", []string{"one", "two", "three"}},
	{"a\x00b", "\x00", []string{"a", "b"}},
	{"a\nb\n", "\n", []string{"a", "b", ""}},
	{"a\xffb\xff", "\xff", []string{"a", "b", ""}},
	{"\u00e9", "\xc3", []string{"", "\xa9"}},
	{"\u00e9,\u00e8", ",", []string{"\u00e9", "\u00e8"}},
}

func TestSplitAndJoinAreInverse(t *testing.T) {
	for _, c := range splitCases {
		parts, ok := impl.SplitString(c.s, c.sep)
		if !ok || !slices.Equal(parts, c.parts) {
			t.Errorf("SplitString(%q, %q) = %q, %v", c.s, c.sep, parts, ok)
		}
		if s, ok := impl.JoinStrings(c.parts, c.sep); !ok || s != c.s {
			t.Errorf("JoinStrings(%q, %q) = %q, %v", c.parts, c.sep, s, ok)
		}
	}
}

func TestSplitAtEveryByte(t *testing.T) {
	all := make([]byte, 256)
	for i := range all {
		all[i] = byte(i)
	}
	s := string(all)
	for i := range 256 {
		sep := string(all[i : i+1])
		parts, ok := impl.SplitString(s, sep)
		if !ok || len(parts) != 2 || parts[0] != s[:i] || parts[1] != s[i+1:] {
			t.Errorf("split at byte %d: %q, %v", i, parts, ok)
		}
		if back, ok := impl.JoinStrings(parts, sep); !ok || back != s {
			t.Errorf("joined at byte %d: %q, %v", i, back, ok)
		}
	}
}

func TestSplitStringAtTheLimit(t *testing.T) {
	plain := strings.Repeat("x", impl.MaxString)
	if parts, ok := impl.SplitString(plain, ","); !ok || len(parts) != 1 || parts[0] != plain {
		t.Error("plain string of MaxString bytes", len(parts), ok)
	}
	commas := strings.Repeat(",", impl.MaxString)
	parts, ok := impl.SplitString(commas, ",")
	if !ok || len(parts) != impl.MaxString+1 {
		t.Fatal("separators of MaxString bytes", len(parts), ok)
	}
	if back, ok := impl.JoinStrings(parts, ","); !ok || back != commas {
		t.Error("joined separators of MaxString bytes", len(back), ok)
	}
	for _, s := range []string{plain + "x", commas + ",", strings.Repeat("a,", 1<<20)} {
		if parts, ok := impl.SplitString(s, ","); ok || len(parts) != 0 {
			t.Error("split string of bytes:", len(s), len(parts), ok)
		}
	}
}

func TestSeparatorsHaveOneByte(t *testing.T) {
	for _, sep := range []string{"", ",,", ", ", "\u00e9", "abc", strings.Repeat(",", impl.MaxString)} {
		for _, s := range []string{"", "a", "a,,b", sep} {
			if parts, ok := impl.SplitString(s, sep); ok || len(parts) != 0 {
				t.Errorf("SplitString(%q, %q) = %q, %v", s, sep, parts, ok)
			}
			if joined, ok := impl.JoinStrings([]string{s, "b"}, sep); ok || joined != "" {
				t.Errorf("JoinStrings([%q b], %q) = %q, %v", s, sep, joined, ok)
			}
		}
		if joined, ok := impl.JoinStrings([]string{"a"}, sep); ok || joined != "" {
			t.Errorf("JoinStrings([a], %q) = %q, %v", sep, joined, ok)
		}
	}
}

func TestJoinStringsRefusesNoParts(t *testing.T) {
	for _, parts := range [][]string{nil, {}} {
		if joined, ok := impl.JoinStrings(parts, ","); ok || joined != "" {
			t.Errorf("JoinStrings of none = %q, %v", joined, ok)
		}
	}
}

func TestJoinStringsRefusesSeparatorInsideElement(t *testing.T) {
	cases := []struct {
		parts []string
		sep   string
	}{
		{[]string{"a;b"}, ";"},
		{[]string{";"}, ";"},
		{[]string{";a", "b"}, ";"},
		{[]string{"a", "b;"}, ";"},
		{[]string{"a", "b;c", "d"}, ";"},
		{[]string{"a", "b", "c;d"}, ";"},
		{[]string{"\u00e9", "a"}, "\xa9"},
		{[]string{"a\x00"}, "\x00"},
	}
	for _, c := range cases {
		if joined, ok := impl.JoinStrings(c.parts, c.sep); ok || joined != "" {
			t.Errorf("JoinStrings(%q, %q) = %q, %v", c.parts, c.sep, joined, ok)
		}
	}
	if joined, ok := impl.JoinStrings([]string{"a,b", "c"}, ";"); !ok || joined != "a,b;c" {
		t.Errorf("another separator inside: %q, %v", joined, ok)
	}
}

func TestJoinStringsAtTheLimit(t *testing.T) {
	x := func(n int) string { return strings.Repeat("x", n) }
	within := [][]string{
		{x(impl.MaxString)},
		{x(impl.MaxString - 1), ""},
		{"", x(impl.MaxString - 1)},
		{x(1000), x(1000), x(impl.MaxString - 2002)},
		make([]string, impl.MaxString+1),
	}
	for _, parts := range within {
		joined, ok := impl.JoinStrings(parts, ",")
		if !ok || len(joined) != impl.MaxString || joined != strings.Join(parts, ",") {
			t.Error("of just MaxString bytes:", len(parts), len(joined), ok)
		}
	}
	beyond := [][]string{
		{x(impl.MaxString + 1)},
		{x(impl.MaxString), ""},
		{"", x(impl.MaxString)},
		{x(1000), x(1000), x(impl.MaxString - 2001)},
		{x(impl.MaxString - 1), "", ""},
		make([]string, impl.MaxString+2),
		make([]string, 1<<20),
		{x(1 << 20), x(1 << 20)},
	}
	for _, parts := range beyond {
		if joined, ok := impl.JoinStrings(parts, ","); ok || joined != "" {
			t.Error("of too many bytes:", len(parts), len(joined), ok)
		}
	}
}

func TestLessStringComparesBytes(t *testing.T) {
	ascending := []string{
		"", "\x00", "\x00\x00", "\x01", " ", "0", "10", "9", "A", "Z", "a", "a\x00", "aa", "ab", "b",
		"\x7f", "\x80", "\xc3", "\xc3\xa9", "\xef\xbf\xbd", "\xf0\x9f\x98\x80", "\xff", "\xff\x00", "\xff\xff",
	}
	for i, a := range ascending {
		for j, b := range ascending {
			if got := impl.LessString(a, b); got != (i < j) {
				t.Errorf("LessString(%q, %q) = %v", a, b, got)
			}
		}
	}
}

func TestLessStringOnSingleBytes(t *testing.T) {
	for i := range 256 {
		for j := range 256 {
			a, b := string([]byte{'k', byte(i)}), string([]byte{'k', byte(j), 'z'})
			if got := impl.LessString(a, b); got != (i <= j) {
				t.Errorf("LessString(%q, %q) = %v", a, b, got)
			}
		}
	}
}

func TestLessStringOnLongStrings(t *testing.T) {
	long := strings.Repeat("x", 10*impl.MaxString)
	if !impl.LessString(long, long+"x") || impl.LessString(long+"x", long) || impl.LessString(long, long) {
		t.Error("long prefix")
	}
	if !impl.LessString(long+"a", long+"b") || impl.LessString(long+"b", long+"a") {
		t.Error("long strings with different ends")
	}
}

// sumOf follows the document's rule, so that Checksum has something to be held against.
func sumOf(s string) int {
	h := 7
	for _, c := range []byte(s) {
		h = (41*h + int(c) + 1) % 999979
	}
	return h
}

func TestChecksumFollowsTheRule(t *testing.T) {
	cases := []struct {
		s    string
		want int
	}{
		{"", 7}, {"a", 385}, {"\x00", 288}, {"\xff", 543}, {"ab", 41*385 + 98 + 1},
		{"\u00e9", 41*(287+0xc3+1) + 0xa9 + 1}, {"#", 287 + 35 + 1},
	}
	for _, c := range cases {
		if got, ok := impl.Checksum(c.s); !ok || got != c.want {
			t.Errorf("Checksum(%q) = %d, %v, not %d", c.s, got, ok, c.want)
		}
	}
	for n := 0; n <= impl.MaxString; n += 97 {
		s := strings.Repeat("cave\x00\xff#\n", n)[:n]
		if got, ok := impl.Checksum(s); !ok || got != sumOf(s) {
			t.Errorf("Checksum of %d bytes = %d, %v, not %d", n, got, ok, sumOf(s))
		}
	}
}

func TestChecksumAtTheLimit(t *testing.T) {
	for _, c := range []string{"x", "\x00", "\xff"} {
		s := strings.Repeat(c, impl.MaxString)
		if got, ok := impl.Checksum(s); !ok || got != sumOf(s) {
			t.Errorf("Checksum of MaxString times %q = %d, %v", c, got, ok)
		}
		if got, ok := impl.Checksum(s + c); ok || got != 0 {
			t.Errorf("Checksum of one byte too many = %d, %v", got, ok)
		}
	}
	if got, ok := impl.Checksum(strings.Repeat("x", 1<<20)); ok || got != 0 {
		t.Error("Checksum of far too many bytes", got, ok)
	}
}

func TestAppendAndVerifyAreInverse(t *testing.T) {
	cases := []string{
		"", "a", "b", "leg 0-1 tape 120 compass 90 slope -5", "a\nb\n", "\x00", "\xff\xfe", "\u00e9",
		"385", "a 385", strings.Repeat("x", 3000),
	}
	for _, s := range cases {
		sealed, ok := impl.AppendChecksum(s)
		if want := s + "#" + strconv.Itoa(sumOf(s)); !ok || sealed != want {
			t.Errorf("AppendChecksum(%q) = %q, %v", s, sealed, ok)
		}
		if opened, ok := impl.VerifyChecksum(sealed); !ok || opened != s {
			t.Errorf("VerifyChecksum(%q) = %q, %v", sealed, opened, ok)
		}
	}
}

func TestAppendChecksumRefusesMark(t *testing.T) {
	for _, s := range []string{"#", "a#", "#a", "a#b", "##", "a#385", strings.Repeat("x", 3000) + "#"} {
		if sealed, ok := impl.AppendChecksum(s); ok || sealed != "" {
			t.Errorf("AppendChecksum(%q) = %q, %v", s, sealed, ok)
		}
		// The right checksum does not help a text with the mark in it.
		if opened, ok := impl.VerifyChecksum(s + "#" + strconv.Itoa(sumOf(s))); ok || opened != "" {
			t.Errorf("VerifyChecksum behind %q = %q, %v", s, opened, ok)
		}
	}
}

func TestAppendAndVerifyAtTheLimit(t *testing.T) {
	reached := map[int]bool{}
	for n := impl.MaxString - 10; n <= impl.MaxString+2; n++ {
		for c := 'a'; c <= 'z'; c++ {
			s := strings.Repeat(string(c), n)
			want := s + "#" + strconv.Itoa(sumOf(s))
			reached[len(want)] = true
			sealed, ok := impl.AppendChecksum(s)
			opened, fine := impl.VerifyChecksum(want)
			if len(want) <= impl.MaxString {
				if !ok || sealed != want || !fine || opened != s {
					t.Errorf("%d bytes of %c: %v, %v", n, c, ok, fine)
				}
			} else if ok || sealed != "" || fine || opened != "" {
				t.Errorf("%d bytes of %c are too many: %v, %v", n, c, ok, fine)
			}
		}
	}
	if !reached[impl.MaxString] || !reached[impl.MaxString+1] {
		t.Error("the limit was not reached")
	}
}

func TestVerifyChecksumRefusesOtherStrings(t *testing.T) {
	cases := []string{
		"", "#", "a", "a#", "#a", "#385", "a#384", "a#386", "a#0385", "a#+385", "a#-385", "a# 385", "a#385 ",
		"a#385\n", "a#385#", "a#385#1", "#a#385", "a##385", "b#385", "aa#385", "385", "#07", "a#3850", "a#38",
		"a#1000364", "a#385#385", "\xff#385", strings.Repeat("x", impl.MaxString) + "#1", strings.Repeat("#", 1<<20),
	}
	for _, s := range cases {
		if opened, ok := impl.VerifyChecksum(s); ok || opened != "" {
			t.Errorf("VerifyChecksum(%q) = %q, %v", s, opened, ok)
		}
	}
	if opened, ok := impl.VerifyChecksum("#7"); !ok || opened != "" {
		t.Errorf("the empty text: %q, %v", opened, ok)
	}
}

// checkChanged changes the byte at a position of a checksummed string to each of some others.
func checkChanged(t *testing.T, sealed string, at int, others []byte) {
	t.Helper()
	changed := []byte(sealed)
	for _, c := range others {
		if c == sealed[at] {
			continue
		}
		changed[at] = c
		if opened, ok := impl.VerifyChecksum(string(changed)); ok || opened != "" {
			t.Errorf("byte %d changed to %d was not detected", at, c)
		}
	}
}

func TestEveryChangedByteIsDetected(t *testing.T) {
	all := make([]byte, 256)
	for i := range all {
		all[i] = byte(i)
	}
	for _, s := range []string{"", "a", "0 show@none", "leg 0-1 tape 120 compass 90 slope -5", "\x00\xff\x80", strings.Repeat("x", 200)} {
		sealed, ok := impl.AppendChecksum(s)
		if !ok {
			t.Fatalf("AppendChecksum(%q) fails", s)
		}
		for at := range len(sealed) {
			checkChanged(t, sealed, at, all)
		}
	}
}

func TestEveryChangedByteOfLongStringIsDetected(t *testing.T) {
	sealed, ok := impl.AppendChecksum(strings.Repeat("survey ", 570))
	if !ok {
		t.Fatal("AppendChecksum fails")
	}
	for at := range len(sealed) {
		checkChanged(t, sealed, at, []byte{0, '#', '0', '9', 'x', 255})
	}
}

// oddStrings are arguments without a purpose: each function must return for them all the same.
func oddStrings() []string {
	odd := []string{"", "\x00", "\xff", "\xc3", "#", "##", ",", "-", "\n", "a#385", "\u00e9", "999999"}
	for _, n := range []int{impl.MaxString - 1, impl.MaxString, impl.MaxString + 1, 1 << 18} {
		odd = append(odd, strings.Repeat("\xff", n), strings.Repeat("#", n), strings.Repeat("1", n))
	}
	return odd
}

func TestStringFunctionsReturnForAllArguments(t *testing.T) {
	odd := oddStrings()
	for _, s := range odd {
		if n, ok := impl.ParseInt(s); !ok && n != 0 {
			t.Error("ParseInt gives a number with false", n)
		}
		if n, ok := impl.Checksum(s); ok != (len(s) <= impl.MaxString) || !ok && n != 0 {
			t.Error("Checksum", len(s), n, ok)
		}
		if x, ok := impl.AppendChecksum(s); !ok && x != "" {
			t.Error("AppendChecksum gives a string with false", len(x))
		}
		if x, ok := impl.VerifyChecksum(s); !ok && x != "" {
			t.Error("VerifyChecksum gives a string with false", len(x))
		}
		for _, sep := range odd {
			if l, ok := impl.SplitString(s, sep); !ok && len(l) != 0 || ok && len(sep) != 1 {
				t.Error("SplitString", len(s), len(sep), len(l), ok)
			}
			if x, ok := impl.JoinStrings([]string{s, s}, sep); !ok && x != "" || ok && len(sep) != 1 {
				t.Error("JoinStrings", len(s), len(sep), len(x), ok)
			}
			if impl.LessString(s, sep) && impl.LessString(sep, s) {
				t.Error("LessString holds both ways")
			}
		}
	}
}

func TestJoinStringsLeavesItsParts(t *testing.T) {
	for _, sep := range []string{",", "b", "", "::"} {
		whole := []string{"a", "", "b", "behind", "the end"}
		before := slices.Clone(whole)
		impl.JoinStrings(whole[:3], sep)
		if !slices.Equal(whole, before) {
			t.Errorf("with %q: %q", sep, whole)
		}
	}
	whole := []string{"a", "b", "not;read"}
	if joined, ok := impl.JoinStrings(whole[:2], ";"); !ok || joined != "a;b" {
		t.Errorf("elements beyond the length are read: %q, %v", joined, ok)
	}
}

func TestSplitStringReturnsNewSlices(t *testing.T) {
	first, _ := impl.SplitString("a,b,c", ",")
	first[0] = "changed"
	_ = append(first[:1], "x", "y")
	second, ok := impl.SplitString("a,b,c", ",")
	if !ok || !slices.Equal(second, []string{"a", "b", "c"}) {
		t.Errorf("second result: %q, %v", second, ok)
	}
}
