package tests

import (
	"math"
	"regexp"
	"slices"
	"strconv"
	"strings"
	"testing"

	"loop.example/g00933/impl"
)

func entryOf(x impl.Leg, isBack bool) impl.Entry {
	return impl.Entry{From: x.From, To: x.To, Tape: x.Tape, Compass: x.Compass, Slope: x.Slope, Back: isBack}
}

// ruledEntry follows the document's words on a valid Entry.
func ruledEntry(e impl.Entry) bool {
	return ruledLeg(impl.Leg{From: e.From, To: e.To, Tape: e.Tape, Compass: e.Compass, Slope: e.Slope})
}

func ruledLine(e impl.Entry) string {
	line := strconv.Itoa(e.From) + " " + strconv.Itoa(e.To) + " " + strconv.FormatFloat(float64(e.Tape)/10, 'f', 1, 64) + " " + strconv.Itoa(e.Compass) + " "
	if e.Slope > 0 {
		line += "+"
	}
	line += strconv.Itoa(e.Slope)
	if e.Back {
		line += " b"
	}
	return line
}

// lineForm leaves open only whether the stations differ and the numbers are within their bounds.
var lineForm = regexp.MustCompile(`\A([0-7]) ([0-7]) (0|[1-9][0-9]?)\.([0-9]) (0|[1-9][0-9]{0,2}) (0|[+-][1-9][0-9]?)( b)?\z`)

// ruledParse reads a line by its form, and the numbers in it, which then have no other spellings.
func ruledParse(s string) (impl.Entry, bool) {
	found := lineForm.FindStringSubmatch(s)
	if found == nil {
		return impl.Entry{}, false
	}
	numbers := []int{}
	for _, text := range found[1:7] {
		n, _ := strconv.Atoi(text)
		numbers = append(numbers, n)
	}
	e := impl.Entry{From: numbers[0], To: numbers[1], Tape: 10*numbers[2] + numbers[3], Compass: numbers[4], Slope: numbers[5], Back: found[7] != ""}
	if !ruledEntry(e) {
		return impl.Entry{}, false
	}
	return e, true
}

func ruledText(book []impl.Entry) string {
	text := ""
	for _, e := range book {
		text += ruledLine(e) + "\n"
	}
	return text
}

// ruledBook goes through all lines with their newlines; behind the last newline there is no line.
func ruledBook(s string) ([]impl.Entry, int) {
	lines := strings.SplitAfter(s, "\n")
	if lines[len(lines)-1] == "" {
		lines = lines[:len(lines)-1]
	}
	book := []impl.Entry{}
	for i, line := range lines {
		bare, isEnded := strings.CutSuffix(line, "\n")
		e, isLine := ruledParse(bare)
		if !isEnded || !isLine || i >= 12 {
			return nil, i + 1
		}
		book = append(book, e)
	}
	return book, 0
}

func ruledForward(e impl.Entry) impl.Leg {
	x := impl.Leg{From: e.From, To: e.To, Tape: e.Tape, Compass: e.Compass, Slope: e.Slope}
	if e.Back && x.Compass >= 180 {
		x.Compass, x.Slope = x.Compass-180, -x.Slope
	} else if e.Back {
		x.Compass, x.Slope = x.Compass+180, -x.Slope
	}
	return x
}

// ruledUpward is the Leg of an Entry in the direction of the greater station.
func ruledUpward(e impl.Entry) impl.Leg {
	x := ruledForward(e)
	if x.From < x.To {
		return x
	}
	return impl.Leg{From: x.To, To: x.From, Tape: x.Tape, Compass: (x.Compass + 180) % 360, Slope: -x.Slope}
}

func ruledPairsDiffer(a, b impl.Leg) bool {
	turn := (a.Compass - b.Compass + 360) % 360
	return a.Tape-b.Tape > 2 || b.Tape-a.Tape > 2 || a.Slope-b.Slope > 2 || b.Slope-a.Slope > 2 || turn > 2 && turn < 358
}

// ruledPairs tells the indices of the errors, and the Entries that no one before them has
// measured.
func ruledPairs(book []impl.Entry) ([]int, []impl.Entry) {
	errors, merged, first := []int{}, []impl.Entry{}, map[[2]int]impl.Leg{}
	for i, e := range book {
		x := ruledUpward(e)
		ends := [2]int{x.From, x.To}
		if before, isThere := first[ends]; !isThere {
			first[ends] = x
			merged = append(merged, e)
		} else if ruledPairsDiffer(before, x) {
			errors = append(errors, i)
		}
	}
	return errors, merged
}

func (n *numbers) entry() impl.Entry { return entryOf(n.leg(), n.next(2) == 1) }

func (n *numbers) book(count int) []impl.Entry {
	list := []impl.Entry{}
	for range count {
		list = append(list, n.entry())
	}
	return list
}

// bookOfPairs has Entries of few legs whose numbers lie near the limits of an error.
func (n *numbers) bookOfPairs(count int) []impl.Entry {
	list, base := []impl.Entry{}, n.leg()
	for range count {
		from := n.next(3)
		x := impl.Leg{From: from, To: (from + n.within(1, 2)) % 3, Tape: min(base.Tape+n.next(4), impl.MaxTape), Compass: (base.Compass + n.next(4)) % 360, Slope: min(base.Slope+n.next(4), 90)}
		if x.From > x.To {
			x.Compass, x.Slope = (x.Compass+180)%360, -x.Slope
		}
		e := entryOf(x, n.next(2) == 1)
		if e.Back {
			e.Compass, e.Slope = (e.Compass+180)%360, -e.Slope
		}
		list = append(list, e)
	}
	return list
}

// spoiltEntries are invalid: the zero Entry, and others in one field each.
func spoiltEntries() []impl.Entry {
	list := []impl.Entry{}
	for _, x := range spoiltLegs() {
		list = append(list, entryOf(x, false), entryOf(x, true))
	}
	return list
}

// knownBook has lines of different lengths, with Back and without.
var knownBook = []impl.Entry{
	{From: 0, To: 1, Tape: 123, Compass: 45, Slope: 5}, {From: 1, To: 2, Tape: 7, Compass: 180, Slope: -90, Back: true},
	{From: 3, To: 0, Tape: 500}, {From: 7, To: 6, Tape: 100, Compass: 359, Slope: 90, Back: true}, {From: 2, To: 1, Tape: 9, Compass: 2, Slope: -8},
}

const knownText = "0 1 12.3 45 +5\n1 2 0.7 180 -90 b\n3 0 50.0 0 0\n7 6 10.0 359 +90 b\n2 1 0.9 2 -8\n"

// fullBook has the most Entries, with the longest lines there are.
func fullBook() []impl.Entry {
	return slices.Repeat([]impl.Entry{{From: 7, To: 6, Tape: 500, Compass: 359, Slope: -90, Back: true}}, impl.MaxNotes)
}

func TestBookLimits(t *testing.T) {
	if impl.MaxNotes != 12 {
		t.Error("MaxNotes", impl.MaxNotes)
	}
}

func TestIsEntryAtTheLimits(t *testing.T) {
	for from := -2; from < 11; from++ {
		for to := -2; to < 11; to++ {
			for _, n := range legNumbers {
				for _, isBack := range []bool{false, true} {
					for _, e := range []impl.Entry{{Tape: n}, {Tape: 1, Compass: n}, {Tape: 1, Slope: n}} {
						e.From, e.To, e.Back = from, to, isBack
						if impl.IsEntry(e) != ruledEntry(e) {
							t.Errorf("IsEntry(%v) is not %v", e, ruledEntry(e))
						}
					}
				}
			}
		}
	}
	for _, e := range append(slices.Clone(knownBook), fullBook()...) {
		if !impl.IsEntry(e) {
			t.Errorf("%v is no Entry", e)
		}
	}
}

func TestInvalidEntriesAreRefused(t *testing.T) {
	for _, e := range spoiltEntries() {
		line, told := impl.EntryLine(e)
		x, turned := impl.LegOf(e)
		if impl.IsEntry(e) || told || line != "" || turned || x != (impl.Leg{}) {
			t.Errorf("%v: %q, %v, %v, %v", e, line, told, x, turned)
		}
	}
}

var entryLines = []struct {
	e    impl.Entry
	line string
}{
	{impl.Entry{From: 0, To: 1, Tape: 123, Compass: 45, Slope: 5}, "0 1 12.3 45 +5"},
	{impl.Entry{From: 0, To: 1, Tape: 123, Compass: 45, Slope: 0}, "0 1 12.3 45 0"},
	{impl.Entry{From: 0, To: 1, Tape: 123, Compass: 45, Slope: -5}, "0 1 12.3 45 -5"},
	{impl.Entry{From: 0, To: 1, Tape: 123, Compass: 45, Slope: 5, Back: true}, "0 1 12.3 45 +5 b"},
	{impl.Entry{From: 0, To: 1, Tape: 123, Compass: 45, Slope: 0, Back: true}, "0 1 12.3 45 0 b"},
	{impl.Entry{From: 0, To: 1, Tape: 123, Compass: 45, Slope: -5, Back: true}, "0 1 12.3 45 -5 b"},
	{impl.Entry{From: 1, To: 2, Tape: 7, Compass: 180, Slope: -90, Back: true}, "1 2 0.7 180 -90 b"},
	// All fields at their bounds.
	{impl.Entry{From: 0, To: 7, Tape: 1, Compass: 0, Slope: -90}, "0 7 0.1 0 -90"},
	{impl.Entry{From: 7, To: 0, Tape: 1, Compass: 359, Slope: 90}, "7 0 0.1 359 +90"},
	{impl.Entry{From: 6, To: 7, Tape: 500, Compass: 359, Slope: -90, Back: true}, "6 7 50.0 359 -90 b"},
	{impl.Entry{From: 7, To: 6, Tape: 500, Compass: 0, Slope: 90, Back: true}, "7 6 50.0 0 +90 b"},
	{impl.Entry{From: 1, To: 0, Tape: 499, Compass: 1, Slope: 89}, "1 0 49.9 1 +89"},
	{impl.Entry{From: 1, To: 0, Tape: 2, Compass: 358, Slope: -89, Back: true}, "1 0 0.2 358 -89 b"},
	// Tapes of less than a meter, of whole ones, and between them.
	{impl.Entry{From: 3, To: 2, Tape: 9, Compass: 10, Slope: 1}, "3 2 0.9 10 +1"},
	{impl.Entry{From: 3, To: 2, Tape: 10, Compass: 100, Slope: -1}, "3 2 1.0 100 -1"},
	{impl.Entry{From: 3, To: 2, Tape: 11, Compass: 9, Slope: 10}, "3 2 1.1 9 +10"},
	{impl.Entry{From: 3, To: 2, Tape: 20, Compass: 99, Slope: -10, Back: true}, "3 2 2.0 99 -10 b"},
	{impl.Entry{From: 3, To: 2, Tape: 99, Compass: 5, Slope: 9}, "3 2 9.9 5 +9"},
	{impl.Entry{From: 3, To: 2, Tape: 100, Compass: 5, Slope: -9}, "3 2 10.0 5 -9"},
	{impl.Entry{From: 3, To: 2, Tape: 101, Compass: 5, Slope: 0}, "3 2 10.1 5 0"},
}

func TestEntryLinesAtKnownEntries(t *testing.T) {
	for _, c := range entryLines {
		if line, ok := impl.EntryLine(c.e); !ok || line != c.line {
			t.Errorf("EntryLine(%v) = %q, %v, not %q", c.e, line, ok, c.line)
		}
		if e, ok := impl.ParseEntry(c.line); !ok || e != c.e {
			t.Errorf("ParseEntry(%q) = %v, %v, not %v", c.line, e, ok, c.e)
		}
	}
}

func checkLine(t *testing.T, e impl.Entry) {
	t.Helper()
	line, ok := impl.EntryLine(e)
	if !ok || line != ruledLine(e) {
		t.Errorf("EntryLine(%v) = %q, %v, not %q", e, line, ok, ruledLine(e))
	}
	if back, ok := impl.ParseEntry(line); !ok || back != e {
		t.Errorf("ParseEntry(%q) = %v, %v, not %v", line, back, ok, e)
	}
}

func TestEntriesAreRecoveredFromTheirLines(t *testing.T) {
	n := numbers{71}
	for compass := range 360 {
		for slope := -90; slope <= 90; slope++ {
			e := n.entry()
			e.Compass, e.Slope = compass, slope
			checkLine(t, e)
		}
	}
	for _, isBack := range []bool{false, true} {
		for tape := 1; tape <= impl.MaxTape; tape++ {
			checkLine(t, impl.Entry{From: 5, To: 4, Tape: tape, Compass: 1, Slope: 1, Back: isBack})
		}
		for from := range impl.MaxStations {
			for to := range impl.MaxStations {
				if from != to {
					checkLine(t, impl.Entry{From: from, To: to, Tape: 90, Compass: 9, Slope: -9, Back: isBack})
				}
			}
		}
	}
}

// wrongLines are no lines of an Entry; none of them has a newline.
var wrongLines = []string{
	"", " ", "x", "b", "+", "-", ".", "0", "0 1", "0 1 12.3", "0 1 12.3 45", "0 1 12.3 45 ", "0 1 12.3 45 b", "0 1 12.3 +5", "1 12.3 45 +5", "12.3 45 +5 b", "leg 0-1 tape 123 compass 45 slope 5",
	// A slope of nothing, and slopes with no sign, a wrong one, two of them, or the sign alone.
	"0 1 12.3 45  b", "0 1 12.3 45 + b", "0 1 12.3 45 - b", "0 1 12.3 45 +", "0 1 12.3 45 -", "0 1 12.3 45 +0", "0 1 12.3 45 -0", "0 1 12.3 45 +0 b", "0 1 12.3 45 -0 b",
	"0 1 12.3 45 5", "0 1 12.3 45 90", "0 1 12.3 45 5 b", "0 1 12.3 45 ++5", "0 1 12.3 45 +-5", "0 1 12.3 45 -+5", "0 1 12.3 45 --5", "0 1 12.3 45 5+", "0 1 12.3 45 + 5", "0 1 12.3 45 - 5", "0 1 12.3 45 \u22125",
	// Numbers with zeros in front.
	"00 1 12.3 45 +5", "0 01 12.3 45 +5", "0 1 012.3 45 +5", "0 1 00.7 45 +5", "0 1 12.3 045 +5", "0 1 12.3 00 +5", "0 1 12.3 45 +05", "0 1 12.3 45 -05", "0 1 12.3 45 00", "0 1 12.3 45 +00", "0 1 12.03 45 +5",
	// Tapes without a decimal, with two, without meters, or with other points.
	"0 1 12 45 +5", "0 1 12. 45 +5", "0 1 12.34 45 +5", "0 1 12.30 45 +5", "0 1 .7 45 +5", "0 1 . 45 +5", "0 1 1.2.3 45 +5", "0 1 12..3 45 +5", "0 1 12.3. 45 +5", "0 1 12,3 45 +5", "0 1 123 45 +5", "0 1 7 45 +5",
	"0 1 +12.3 45 +5", "0 1 -0.7 45 +5", "0 1 -12.3 45 +5", "0 1 12.+3 45 +5", "0 1 1.-3 45 +5", "0 1 2.-0 45 +5", "0 1 12.10 45 +5", "0 1 1.23 45 +5", "0 1 0.10 45 +5", "0 1 1e1.0 45 +5", "0 1 12 .3 45 +5", "0 1 12. 3 45 +5", "0 1  45 +5",
	// Other spellings of the other numbers.
	"+0 1 12.3 45 +5", "-0 1 12.3 45 +5", "0 +1 12.3 45 +5", "0 1 12.3 +45 +5", "0 1 12.3 -0 +5", "0 1 12.3 4_5 +5", "0 1 12.3 0x9 +5", "0 1 12.3 45.0 +5", "0 1 12.3 45 +5.0", "0.0 1 12.3 45 +5", "a 1 12.3 45 +5", "0 \u0661 12.3 45 +5",
	// More words, and other ones at the end.
	"0 1 12.3 45 +5 B", "0 1 12.3 45 +5 c", "0 1 12.3 45 +5 bb", "0 1 12.3 45 +5 b b", "0 1 12.3 45 +5 back", "0 1 12.3 45 +5 0", "0 1 12.3 45 +5 b x", "b 0 1 12.3 45 +5", "0 1 12.3 45 b +5", "0 1 12.3 45 +5b", "0 1 12.3 45 0b", "0 1 2 12.3 45 +5", "0 1 12.3 45 6 +5",
	// Two spaces, a space at an end, and other white space.
	"0  1 12.3 45 +5", "0 1  12.3 45 +5", "0 1 12.3  45 +5", "0 1 12.3 45  +5", "0 1 12.3 45 +5  b", " 0 1 12.3 45 +5", "0 1 12.3 45 +5 ", " 0 1 12.3 45 +5 b", "0 1 12.3 45 +5 b ", "0 1 12.3 45 0 ", "0 1 12.3 45 +5  ",
	"0\t1 12.3 45 +5", "0 1 12.3 45 +5\tb", "0 1 12.3 45 +5\r", "0 1 12.3 45 +5 b\r", "0 1 12.3 45 +5\x00", "0\u00a01 12.3 45 +5", "0-1 12.3 45 +5", "0,1,12.3,45,+5",
	// Entries that are not valid as legs.
	"0 0 1.0 0 0", "7 7 12.3 45 +5 b", "8 1 12.3 45 +5", "0 8 12.3 45 +5", "10 1 12.3 45 +5", "-1 1 12.3 45 +5", "0 -1 12.3 45 +5", "0 1 0.0 45 +5", "0 1 50.1 45 +5", "0 1 51.0 45 +5", "0 1 100.0 45 +5", "0 1 500.0 45 +5", "0 1 500.0 45 +5 b",
	"0 1 12.3 360 +5", "0 1 12.3 -1 +5", "0 1 12.3 1000 +5", "0 1 12.3 45 +91", "0 1 12.3 45 -91", "0 1 12.3 45 +91 b", "0 1 12.3 45 -91 b", "0 1 12.3 45 +100", "0 1 1000000.0 45 +5", "0 1 18446744073709551617.0 45 +5", "0 1 12.3 18446744073709551661 +5", "0 1 12.3 45 +18446744073709551621",
}

func checkNoEntry(t *testing.T, s string) {
	t.Helper()
	if e, ok := impl.ParseEntry(s); ok || e != (impl.Entry{}) {
		t.Errorf("ParseEntry(%.60q) of %d bytes = %v, %v", s, len(s), e, ok)
	}
}

func TestParseEntryRefusesOtherTexts(t *testing.T) {
	for _, s := range append(oddStrings(), wrongLines...) {
		checkNoEntry(t, s)
	}
	for _, s := range []string{"0 1 12.3 45 +5\n", "0 1 12.3 45 +5 b\n", "\n0 1 12.3 45 +5", "0 1 12.3 45 0\n", "0 1 12.3 45 +5\n0 1 12.3 45 +5"} {
		checkNoEntry(t, s)
	}
	for _, n := range []int{1, 2, impl.MaxString, 1 << 16} {
		checkNoEntry(t, "0 1 12.3 45 +5"+strings.Repeat(" ", n))
		checkNoEntry(t, "0 1 12.3 45 +5 "+strings.Repeat("b", n+1))
		checkNoEntry(t, strings.Repeat("0", n)+"0 1 12.3 45 +5")
	}
}

func checkParsedEntry(t *testing.T, s string) {
	t.Helper()
	want, isLine := ruledParse(s)
	if e, ok := impl.ParseEntry(s); ok != isLine || e != want {
		t.Errorf("ParseEntry(%q) = %v, %v, not %v, %v", s, e, ok, want, isLine)
	}
}

// changedTexts leaves out, changes and adds each byte of a text at each place.
func changedTexts(text string, use func(s string)) {
	for i := range len(text) + 1 {
		for b := range 256 {
			use(text[:i] + string([]byte{byte(b)}) + text[i:])
			if i < len(text) {
				use(text[:i] + string([]byte{byte(b)}) + text[i+1:])
			}
		}
		use(text[:i])
		use(text[i:])
		if i < len(text) {
			use(text[:i] + text[i+1:])
		}
	}
}

func TestParseEntryOfChangedLines(t *testing.T) {
	for _, c := range entryLines {
		changedTexts(c.line, func(s string) { checkParsedEntry(t, s) })
	}
}

// TestParseEntryOfAllSmallNumbers has numbers around all bounds, in spellings with and without
// a sign or a zero in front.
func TestParseEntryOfAllSmallNumbers(t *testing.T) {
	for n := range 1100 {
		for _, sign := range []string{"", "+", "-", "0", "+0", "-0"} {
			text := sign + strconv.Itoa(n)
			for _, end := range []string{"", " b"} {
				checkParsedEntry(t, text+" 1 12.3 45 +5"+end)
				checkParsedEntry(t, "2 "+text+" 12.3 45 +5"+end)
				checkParsedEntry(t, "2 1 "+text+" 45 +5"+end)
				checkParsedEntry(t, "2 1 "+text+".0 45 +5"+end)
				checkParsedEntry(t, "2 1 "+text+".1 45 +5"+end)
				checkParsedEntry(t, "2 1 12."+text+" 45 +5"+end)
				checkParsedEntry(t, "2 1 0."+text+" 45 +5"+end)
				checkParsedEntry(t, "2 1 12.3 "+text+" +5"+end)
				checkParsedEntry(t, "2 1 12.3 45 "+text+end)
			}
		}
	}
}

func checkBook(t *testing.T, s string, want []impl.Entry) {
	t.Helper()
	if book, n, ok := impl.ParseBook(s); !ok || n != 0 || !slices.Equal(book, want) {
		t.Errorf("ParseBook(%q) = %v, %d, %v, not %v", s, book, n, ok, want)
	}
}

func checkWrongLine(t *testing.T, s string, want int) {
	t.Helper()
	if book, n, ok := impl.ParseBook(s); ok || n != want || book != nil {
		t.Errorf("ParseBook(%.300q) of %d bytes = %v, %d, %v, not %d", s, len(s), book, n, ok, want)
	}
}

func checkAnyBook(t *testing.T, s string) {
	t.Helper()
	if book, wrong := ruledBook(s); wrong == 0 {
		checkBook(t, s, book)
	} else {
		checkWrongLine(t, s, wrong)
	}
}

func checkBookText(t *testing.T, book []impl.Entry) {
	t.Helper()
	text, ok := impl.BookText(book)
	if !ok || text != ruledText(book) {
		t.Errorf("BookText(%v) = %q, %v, not %q", book, text, ok, ruledText(book))
	}
	checkBook(t, text, book)
}

func TestBookTextsAtKnownBooks(t *testing.T) {
	cases := []struct {
		book []impl.Entry
		text string
	}{
		{nil, ""}, {[]impl.Entry{}, ""}, {knownBook[:1], "0 1 12.3 45 +5\n"}, {knownBook[1:2], "1 2 0.7 180 -90 b\n"}, {knownBook, knownText},
		// The same Entry twice, and Entries of one leg, are no less a book.
		{[]impl.Entry{knownBook[2], knownBook[2]}, "3 0 50.0 0 0\n3 0 50.0 0 0\n"},
		{fullBook(), strings.Repeat("7 6 50.0 359 -90 b\n", 12)}, {fullBook()[:11], strings.Repeat("7 6 50.0 359 -90 b\n", 11)},
	}
	for _, c := range cases {
		if text, ok := impl.BookText(c.book); !ok || text != c.text {
			t.Errorf("BookText(%v) = %q, %v, not %q", c.book, text, ok, c.text)
		}
		checkBook(t, c.text, c.book)
	}
}

func TestBooksAreRecoveredFromTheirTexts(t *testing.T) {
	n := numbers{72}
	for range 400 {
		for count := range impl.MaxNotes + 1 {
			checkBookText(t, n.book(count))
		}
	}
}

func TestParseBookTellsTheFirstWrongLine(t *testing.T) {
	good, ending := "0 1 1.0 0 0\n", "0 1 1.0 0 0"
	many := func(count int) string { return strings.Repeat(good, count) }
	cases := []struct {
		text string
		want int
	}{
		// Lines that are none, at the beginning, in the midst of good ones and at the end.
		{"x\n", 1}, {"x\n" + good, 1}, {good + "x\n", 2}, {good + "x\n" + good, 2}, {many(5) + "0 1 1.0 0 +0\n" + many(3), 6}, {many(5) + "0 1 1.0 0 \n" + many(3), 6}, {many(11) + "x\n", 12},
		// Empty lines.
		{"\n", 1}, {"\n\n", 1}, {"\n" + good, 1}, {good + "\n", 2}, {good + "\n" + good, 2}, {many(3) + "\n\n", 4}, {many(11) + "\n", 12},
		// A last line without its newline.
		{ending, 1}, {"x", 1}, {good + ending, 2}, {good + "x", 2}, {many(4) + ending, 5}, {many(11) + ending, 12}, {good + " ", 2}, {ending + "\r", 1}, {ending + "\r\n", 1}, {ending + "\x00", 1},
		// A line behind MaxNotes lines: a good one, a wrong one, an empty one, one without its newline.
		{many(13), 13}, {many(12) + "x\n", 13}, {many(12) + "\n", 13}, {many(12) + ending, 13}, {many(12) + "x", 13}, {many(12) + " ", 13}, {many(14), 13}, {many(12) + "\n\n", 13}, {many(20) + "x\n" + ending, 13},
		// A wrong line ahead of each of these.
		{"x\ny\n" + good, 1}, {good + "x\n" + good + "y\n", 2}, {"x\n\n", 1}, {good + "x\n" + good + "\n", 2}, {"x\n" + ending, 1}, {many(3) + "x\n" + ending, 4},
		{"x\n" + many(12), 1}, {many(11) + "x\n" + good, 12}, {many(11) + "\n" + good, 12}, {many(6) + "x\n" + many(20), 7}, {many(11) + "x\n" + "y\n", 12}, {many(5) + "\n" + many(6) + "x\n", 6},
	}
	for _, c := range cases {
		checkWrongLine(t, c.text, c.want)
		checkAnyBook(t, c.text)
	}
}

// TestParseBookTellsEachWrongLine has each wrong line ahead of, between and behind good ones,
// with its newline and without.
func TestParseBookTellsEachWrongLine(t *testing.T) {
	lines := strings.SplitAfter(ruledText(fullBook()), "\n")
	for _, wrong := range wrongLines {
		for i := range impl.MaxNotes {
			ahead, behind := strings.Join(lines[:i], ""), strings.Join(lines[i+1:], "")
			checkWrongLine(t, ahead+wrong+"\n"+behind, i+1)
			checkWrongLine(t, ahead+wrong+"\n", i+1)
			if wrong != "" {
				checkWrongLine(t, ahead+wrong, i+1)
			}
		}
	}
}

func TestParseBookOfChangedTexts(t *testing.T) {
	for count := range len(knownBook) + 1 {
		changedTexts(ruledText(knownBook[:count]), func(s string) { checkAnyBook(t, s) })
	}
	changedTexts(ruledText(fullBook()), func(s string) { checkAnyBook(t, s) })
}

// TestParseBookOfLongTexts has texts beyond MaxString, whose first wrong line is told as well.
func TestParseBookOfLongTexts(t *testing.T) {
	good := "0 1 1.0 0 0\n"
	for _, n := range []int{impl.MaxString / len(good), impl.MaxString/len(good) + 1, 1000, 50000} {
		checkWrongLine(t, strings.Repeat(good, n), 13)
		checkWrongLine(t, strings.Repeat(good, 3)+"x\n"+strings.Repeat(good, n), 4)
		checkWrongLine(t, strings.Repeat(good, 2)+strings.Repeat("\n", n), 3)
		checkWrongLine(t, strings.Repeat(good, 2)+strings.Repeat(" ", n), 3)
		checkWrongLine(t, strings.Repeat("1", 12*n)+"\n"+good, 1)
		checkWrongLine(t, strings.Repeat(good, 11)+strings.Repeat("1", 12*n), 12)
	}
	for _, s := range oddStrings() {
		checkAnyBook(t, s)
	}
}

func TestLegOfAtKnownEntries(t *testing.T) {
	cases := []struct{ compass, slope, backCompass, backSlope int }{
		{0, 0, 180, 0}, {179, 0, 359, 0}, {180, 0, 0, 0}, {359, 0, 179, 0}, {1, 5, 181, -5}, {181, -5, 1, 5},
		{0, 90, 180, -90}, {179, 90, 359, -90}, {180, 90, 0, -90}, {359, 90, 179, -90},
		{0, -90, 180, 90}, {179, -90, 359, 90}, {180, -90, 0, 90}, {359, -90, 179, 90},
	}
	for _, c := range cases {
		e := impl.Entry{From: 1, To: 2, Tape: 7, Compass: c.compass, Slope: c.slope}
		if x, ok := impl.LegOf(e); !ok || x != (impl.Leg{From: 1, To: 2, Tape: 7, Compass: c.compass, Slope: c.slope}) {
			t.Errorf("LegOf(%v) = %v, %v", e, x, ok)
		}
		e.Back = true
		if x, ok := impl.LegOf(e); !ok || x != (impl.Leg{From: 1, To: 2, Tape: 7, Compass: c.backCompass, Slope: c.backSlope}) {
			t.Errorf("LegOf(%v) = %v, %v", e, x, ok)
		}
	}
}

// TestLegOfAllDirections also has the other way to write an Entry that was read backwards: its
// Leg is the reverse of what was read from To to From.
func TestLegOfAllDirections(t *testing.T) {
	n := numbers{73}
	for compass := range 360 {
		for slope := -90; slope <= 90; slope++ {
			x := n.leg()
			x.Compass, x.Slope = compass, slope
			read := impl.Leg{From: x.To, To: x.From, Tape: x.Tape, Compass: compass, Slope: slope}
			turned, _ := impl.ReverseLeg(read)
			forth, one := impl.LegOf(entryOf(x, false))
			back, two := impl.LegOf(entryOf(x, true))
			if !one || forth != x || !two || back != turned || back != ruledForward(entryOf(x, true)) {
				t.Fatalf("LegOf of %v: %v, %v forwards and %v, %v backwards", x, forth, one, back, two)
			}
		}
	}
}

func checkBookLength(t *testing.T, book []impl.Entry, want int) {
	t.Helper()
	if n, ok := impl.BookLength(book); !ok || n != want {
		t.Errorf("BookLength(%v) = %d, %v, not %d", book, n, ok, want)
	}
}

func TestBookLengthAtKnownBooks(t *testing.T) {
	checkBookLength(t, nil, 0)
	checkBookLength(t, []impl.Entry{}, 0)
	checkBookLength(t, knownBook[:1], 123)
	checkBookLength(t, knownBook[1:2], 7)
	checkBookLength(t, knownBook[:2], 130)
	checkBookLength(t, knownBook, 739)
	checkBookLength(t, fullBook(), 6000)
	// Entries of one leg count each.
	checkBookLength(t, []impl.Entry{knownBook[0], knownBook[0], {From: 1, To: 0, Tape: 1, Back: true}}, 247)
}

func checkErrorsOfPairs(t *testing.T, book []impl.Entry, want ...int) {
	t.Helper()
	if got, ok := impl.PairErrors(book); !ok || !slices.Equal(got, want) {
		t.Errorf("PairErrors(%v) = %v, %v, not %v", book, got, ok, want)
	}
}

func checkMerged(t *testing.T, book []impl.Entry, want ...impl.Entry) {
	t.Helper()
	if got, ok := impl.MergePairs(book); !ok || !slices.Equal(got, want) {
		t.Errorf("MergePairs(%v) = %v, %v, not %v", book, got, ok, want)
	}
}

// fourWays are the Entries that tell of one Leg: from either end, with Back and without.
func fourWays(x impl.Leg) []impl.Entry {
	r := impl.Leg{From: x.To, To: x.From, Tape: x.Tape, Compass: (x.Compass + 180) % 360, Slope: -x.Slope}
	list := []impl.Entry{entryOf(x, false), entryOf(r, false), entryOf(r, true), entryOf(x, true)}
	list[2].From, list[2].To = x.From, x.To
	list[3].From, list[3].To = x.To, x.From
	return list
}

// checkPair checks two Legs of the same stations in all ways in which they can be told, in both
// orders, and with Entries of other legs around them.
func checkPair(t *testing.T, a, b impl.Leg, isError bool) {
	t.Helper()
	other, third := impl.Entry{From: a.From, To: 7, Tape: 400, Compass: 77}, impl.Entry{From: 7, To: a.To, Tape: 30, Slope: 44, Back: true}
	for _, one := range fourWays(a) {
		for _, two := range fourWays(b) {
			for _, pair := range [][2]impl.Entry{{one, two}, {two, one}} {
				near, apart := []int{}, []int{}
				if isError {
					near, apart = []int{1}, []int{3}
				}
				checkErrorsOfPairs(t, pair[:], near...)
				checkMerged(t, pair[:], pair[0])
				around := []impl.Entry{other, pair[0], third, pair[1], other}
				checkErrorsOfPairs(t, around, apart...)
				checkMerged(t, around, other, pair[0], third)
			}
		}
	}
}

func TestPairsAtTheLimitsOfAnError(t *testing.T) {
	a := impl.Leg{From: 2, To: 5, Tape: 100, Compass: 40, Slope: 10}
	cases := []struct {
		tape, compass, slope int
		isError              bool
	}{
		{100, 40, 10, false}, {102, 40, 10, false}, {98, 40, 10, false}, {103, 40, 10, true}, {97, 40, 10, true}, {500, 40, 10, true}, {1, 40, 10, true},
		{100, 42, 10, false}, {100, 38, 10, false}, {100, 43, 10, true}, {100, 37, 10, true}, {100, 220, 10, true}, {100, 219, 10, true}, {100, 221, 10, true}, {100, 130, 10, true},
		{100, 40, 12, false}, {100, 40, 8, false}, {100, 40, 13, true}, {100, 40, 7, true}, {100, 40, -10, true}, {100, 40, 90, true}, {100, 40, -90, true},
		{102, 42, 12, false}, {98, 38, 8, false}, {103, 42, 12, true}, {102, 43, 12, true}, {102, 42, 13, true}, {101, 41, 9, false}, {97, 37, 7, true},
	}
	for _, c := range cases {
		checkPair(t, a, impl.Leg{From: 2, To: 5, Tape: c.tape, Compass: c.compass, Slope: c.slope}, c.isError)
	}
}

func TestPairsAroundNorthAndLevel(t *testing.T) {
	cases := []struct {
		compass, slope, otherCompass, otherSlope int
		isError                                  bool
	}{
		{359, 0, 1, 0, false}, {358, 0, 0, 0, false}, {359, 0, 2, 0, true}, {358, 0, 1, 0, true}, {357, 0, 0, 0, true}, {0, 0, 0, 0, false}, {0, 0, 359, 0, false},
		{179, 0, 181, 0, false}, {178, 0, 180, 0, false}, {179, 0, 182, 0, true}, {178, 0, 181, 0, true}, {177, 0, 180, 0, true}, {0, 0, 180, 0, true}, {359, 0, 179, 0, true},
		{90, 1, 90, -1, false}, {90, 2, 90, 0, false}, {90, 1, 90, -2, true}, {90, 2, 90, -1, true}, {90, 0, 90, -3, true},
		// Straight up and down the compass counts as well.
		{90, 90, 90, 88, false}, {90, 90, 90, 87, true}, {90, 90, 93, 90, true}, {90, -90, 92, -90, false}, {90, -90, 270, -90, true}, {90, 90, 90, -90, true},
	}
	for _, c := range cases {
		a := impl.Leg{From: 6, To: 0, Tape: 500, Compass: c.compass, Slope: c.slope}
		checkPair(t, a, impl.Leg{From: 6, To: 0, Tape: 500, Compass: c.otherCompass, Slope: c.otherSlope}, c.isError)
	}
}

// TestEachIsComparedWithTheFirstOfItsLeg has Entries that are near to the one before them, but
// not to the first one, and others that are near to the first one only.
func TestEachIsComparedWithTheFirstOfItsLeg(t *testing.T) {
	tape := func(n int) impl.Entry { return impl.Entry{From: 0, To: 1, Tape: n} }
	back := func(n int) impl.Entry { return impl.Entry{From: 1, To: 0, Tape: n, Back: true} }
	other := func(n int) impl.Entry { return impl.Entry{From: 1, To: 2, Tape: n} }
	cases := []struct {
		book   []impl.Entry
		errors []int
		merged []int
	}{
		{[]impl.Entry{tape(10), tape(12), tape(14)}, []int{2}, []int{0}}, {[]impl.Entry{tape(10), tape(14), tape(12)}, []int{1}, []int{0}},
		{[]impl.Entry{tape(10), tape(14), tape(14)}, []int{1, 2}, []int{0}}, {[]impl.Entry{tape(12), tape(10), tape(14)}, nil, []int{0}},
		{[]impl.Entry{tape(14), tape(10), tape(10), tape(14)}, []int{1, 2}, []int{0}}, {[]impl.Entry{tape(10), tape(10), tape(10)}, nil, []int{0}},
		{[]impl.Entry{tape(10), back(12), tape(14), back(8), back(7)}, []int{2, 4}, []int{0}},
		{[]impl.Entry{back(10), tape(13), back(13), tape(12)}, []int{1, 2}, []int{0}},
		// Entries of other legs between them, each leg for itself.
		{[]impl.Entry{tape(10), other(20), tape(12), other(22), tape(14), other(24)}, []int{4, 5}, []int{0, 1}},
		{[]impl.Entry{other(20), tape(10), tape(13), other(17), tape(12), other(18)}, []int{2, 3}, []int{0, 1}},
		{[]impl.Entry{tape(10), other(10), {From: 0, To: 2, Tape: 90}, {From: 2, To: 1, Tape: 90, Compass: 180}}, []int{3}, []int{0, 1, 2}},
	}
	for _, c := range cases {
		checkErrorsOfPairs(t, c.book, c.errors...)
		merged := []impl.Entry{}
		for _, i := range c.merged {
			merged = append(merged, c.book[i])
		}
		checkMerged(t, c.book, merged...)
	}
}

func TestPairsOfBooksWithoutPairs(t *testing.T) {
	around := []impl.Entry{}
	for i := range impl.MaxStations {
		around = append(around, impl.Entry{From: i, To: (i + 1) % 8, Tape: 50 * (i + 1), Compass: 40 * i, Slope: 9 * i, Back: i%2 == 0})
	}
	for _, book := range [][]impl.Entry{nil, {}, knownBook[:1], knownBook[1:4], around} {
		checkErrorsOfPairs(t, book)
		checkMerged(t, book, book...)
	}
	// Those of knownBook that measure the same leg are its second and its last one.
	checkErrorsOfPairs(t, knownBook, 4)
	checkMerged(t, knownBook, knownBook[:4]...)
	checkErrorsOfPairs(t, fullBook())
	checkMerged(t, fullBook(), fullBook()[0])
}

func TestPairsOfManyBooks(t *testing.T) {
	n, errors := numbers{74}, 0
	for range 3000 {
		for _, book := range [][]impl.Entry{n.bookOfPairs(n.within(2, impl.MaxNotes)), n.book(n.within(2, impl.MaxNotes))} {
			indices, merged := ruledPairs(book)
			errors += len(indices)
			checkErrorsOfPairs(t, book, indices...)
			checkMerged(t, book, merged...)
			// Merged Entries measure different legs.
			checkErrorsOfPairs(t, merged)
			checkMerged(t, merged, merged...)
		}
	}
	if errors < 1000 {
		t.Error("the sample has too few errors:", errors)
	}
}

func checkReversed(t *testing.T, book []impl.Entry, want ...impl.Entry) {
	t.Helper()
	if got, ok := impl.ReverseBook(book); !ok || !slices.Equal(got, want) {
		t.Errorf("ReverseBook(%v) = %v, %v, not %v", book, got, ok, want)
	}
}

func TestReverseBookAtKnownBooks(t *testing.T) {
	checkReversed(t, nil)
	checkReversed(t, []impl.Entry{})
	checkReversed(t, knownBook[:1], impl.Entry{From: 1, To: 0, Tape: 123, Compass: 45, Slope: 5, Back: true})
	checkReversed(t, knownBook[1:2], impl.Entry{From: 2, To: 1, Tape: 7, Compass: 180, Slope: -90})
	checkReversed(t, knownBook[:3],
		impl.Entry{From: 0, To: 3, Tape: 500, Back: true}, impl.Entry{From: 2, To: 1, Tape: 7, Compass: 180, Slope: -90},
		impl.Entry{From: 1, To: 0, Tape: 123, Compass: 45, Slope: 5, Back: true})
}

// TestReverseBookTwiceIsNoChange also checks that what a reversed Entry measures is the reverse.
func TestReverseBookTwiceIsNoChange(t *testing.T) {
	n := numbers{75}
	for range 300 {
		for count := range impl.MaxNotes + 1 {
			book := n.book(count)
			reversed, ok := impl.ReverseBook(book)
			if !ok || len(reversed) != count {
				t.Fatalf("ReverseBook(%v) = %v, %v", book, reversed, ok)
			}
			checkReversed(t, reversed, book...)
			checkBookText(t, reversed)
			for i, e := range book {
				turned, _ := impl.ReverseLeg(ruledForward(e))
				if x, ok := impl.LegOf(reversed[count-1-i]); !ok || x != turned || reversed[count-1-i].Back == e.Back {
					t.Errorf("%v is reversed to %v, which measures %v, %v", e, reversed[count-1-i], x, ok)
				}
			}
		}
	}
}

// checkNoBook checks that no function takes the list.
func checkNoBook(t *testing.T, list []impl.Entry) {
	t.Helper()
	text, one := impl.BookText(list)
	length, two := impl.BookLength(list)
	errors, three := impl.PairErrors(list)
	merged, four := impl.MergePairs(list)
	reversed, five := impl.ReverseBook(list)
	if one || two || three || four || five || text != "" || length != 0 || len(errors)+len(merged)+len(reversed) != 0 {
		t.Errorf("%v: %q, %v; %d, %v; %v, %v; %v, %v; %v, %v", list, text, one, length, two, errors, three, merged, four, reversed, five)
	}
}

// checkAllOf checks all functions at a book against the document's words.
func checkAllOf(t *testing.T, book []impl.Entry) {
	t.Helper()
	length, reversed := 0, []impl.Entry{}
	for _, e := range book {
		length += e.Tape
		reversed = slices.Insert(reversed, 0, impl.Entry{From: e.To, To: e.From, Tape: e.Tape, Compass: e.Compass, Slope: e.Slope, Back: !e.Back})
	}
	errors, merged := ruledPairs(book)
	checkBookText(t, book)
	checkBookLength(t, book, length)
	checkErrorsOfPairs(t, book, errors...)
	checkMerged(t, book, merged...)
	checkReversed(t, book, reversed...)
}

func TestBooksOfTheMostEntries(t *testing.T) {
	n := numbers{76}
	for range 200 {
		for _, list := range [][]impl.Entry{n.book(impl.MaxNotes + 1), n.bookOfPairs(impl.MaxNotes + 1)} {
			checkAllOf(t, list[:impl.MaxNotes])
			checkNoBook(t, list)
			checkWrongLine(t, ruledText(list), 13)
		}
	}
	checkAllOf(t, fullBook())
	checkNoBook(t, append(fullBook(), fullBook()[0]))
	checkNoBook(t, slices.Repeat(knownBook, 1000))
	// One leg too often is too many Entries, although it would be merged.
	checkNoBook(t, slices.Repeat(knownBook[:1], impl.MaxNotes+1))
}

// TestListsWithOneInvalidEntryAreNoBooks has it alone and at each place among valid ones.
func TestListsWithOneInvalidEntryAreNoBooks(t *testing.T) {
	for _, e := range spoiltEntries() {
		checkNoBook(t, []impl.Entry{e})
		for _, book := range [][]impl.Entry{knownBook, fullBook()} {
			for i := range book {
				list := slices.Clone(book)
				list[i] = e
				checkNoBook(t, list)
				checkWrongLine(t, ruledText(list), i+1)
			}
		}
	}
	checkAllOf(t, knownBook)
}

func TestBookFunctionsReturnForAllArguments(t *testing.T) {
	for i, x := range oddLegs() {
		e := entryOf(x, i%2 == 0)
		line, told := impl.EntryLine(e)
		leg, turned := impl.LegOf(e)
		valid := ruledEntry(e)
		if impl.IsEntry(e) != valid || told != valid || turned != valid || !valid && (line != "" || leg != impl.Leg{}) {
			t.Errorf("%v: %v, %q, %v, %v, %v", e, impl.IsEntry(e), line, told, leg, turned)
		}
		list := []impl.Entry{knownBook[0], e, knownBook[4]}[:2+i%2]
		if valid {
			checkAllOf(t, list)
		} else {
			checkNoBook(t, list)
		}
	}
}

func TestBookFunctionsLeaveTheirLists(t *testing.T) {
	// Behind the length of a list there are Entries that are neither read nor written.
	whole := append(slices.Clone(knownBook), knownBook[0], impl.Entry{From: -7, To: 77, Tape: 777})
	before := slices.Clone(whole)
	for count := range len(knownBook) + 2 {
		checkAllOf(t, whole[:count])
	}
	checkNoBook(t, whole)
	if !slices.Equal(whole, before) {
		t.Error("the list was modified", whole)
	}
}

// TestResultsOfBookFunctionsAreTheirOwn writes to all results and behind their lengths, and
// asks again.
func TestResultsOfBookFunctionsAreTheirOwn(t *testing.T) {
	book := slices.Clone(knownBook)
	for range 2 {
		checkAllOf(t, book)
		parsed, _, one := impl.ParseBook(knownText)
		merged, two := impl.MergePairs(book)
		reversed, three := impl.ReverseBook(book)
		errors, four := impl.PairErrors(book)
		if !one || !two || !three || !four || !slices.Equal(parsed, knownBook) || !slices.Equal(merged, knownBook[:4]) || !slices.Equal(errors, []int{4}) {
			t.Error(parsed, one, merged, two, reversed, three, errors, four)
		}
		for _, list := range [][]impl.Entry{parsed, merged, reversed} {
			clear(list)
			clear(append(list, impl.Entry{Tape: 9}, impl.Entry{Tape: math.MinInt}))
		}
		clear(errors)
		clear(append(errors, -1, -2, -3))
		if !slices.Equal(book, knownBook) {
			t.Error("a result shares memory with the list", book)
		}
	}
}
