package tests

import (
	"math"
	"regexp"
	"slices"
	"strings"
	"testing"

	"loop.example/g00933/impl"
)

const markLetters = "ABCDEFGHIJKLMNOPQRSTUVWXYZ"

func markOf(letter string, east, north int) impl.PlanMark {
	return impl.PlanMark{Letter: letter, East: east, North: north}
}

// marksAt has the Letters from A on at places with an East and a North each.
func marksAt(places ...[2]int) []impl.PlanMark {
	list := []impl.PlanMark{}
	for i, place := range places {
		list = append(list, markOf(markLetters[i:i+1], place[0], place[1]))
	}
	return list
}

// stepsOf has count marks of which each is by an East and a North behind the one before it.
func stepsOf(count, east, north int) []impl.PlanMark {
	list := []impl.PlanMark{}
	for i := range count {
		list = append(list, markOf(markLetters[i:i+1], i*east, i*north))
	}
	return list
}

func ruledMark(m impl.PlanMark) bool {
	return m.Letter != "" && slices.Contains(strings.Split(markLetters, ""), m.Letter) &&
		m.East >= -1000 && m.East <= 1000 && m.North >= -1000 && m.North <= 1000
}

// ruledMarks follows the document's words on marks.
func ruledMarks(list []impl.PlanMark) bool {
	if len(list) > 12 {
		return false
	}
	for i, m := range list {
		for _, other := range list[:i] {
			if other.Letter >= m.Letter {
				return false
			}
		}
		if !ruledMark(m) {
			return false
		}
	}
	return true
}

// ruledSquare is that of a number: x divided by the scale, rounded down.
func ruledSquare(x, scale int) int { return int(math.Floor(float64(x) / float64(scale))) }

// ruledEdges are the least and the greatest square from west to east and from south to north.
func ruledEdges(list []impl.PlanMark, scale int) (west, east, south, north int) {
	easts, norths := []int{}, []int{}
	for _, m := range list {
		easts, norths = append(easts, ruledSquare(m.East, scale)), append(norths, ruledSquare(m.North, scale))
	}
	return slices.Min(easts), slices.Max(easts), slices.Min(norths), slices.Max(norths)
}

// ruledPlan has the column and the row of each mark of the list in squares.
type ruledPlan struct {
	list          []impl.PlanMark
	columns, rows int
	squares       [][2]int
	text          string
	hidden        []string
	fits          bool
}

// ruledPlanOf follows the document's words: for each square it looks for the marks in it. It
// is told for valid marks and scales, and fits if there are marks and not too many squares.
func ruledPlanOf(list []impl.PlanMark, scale int) ruledPlan {
	p := ruledPlan{list: list}
	if len(list) == 0 {
		return p
	}
	west, east, south, north := ruledEdges(list, scale)
	p.columns, p.rows = east-west+1, north-south+1
	for _, m := range list {
		p.squares = append(p.squares, [2]int{ruledSquare(m.East, scale) - west, north - ruledSquare(m.North, scale)})
	}
	p.fits = p.columns <= 20 && p.rows <= 20
	if !p.fits {
		return p
	}
	for row := range p.rows {
		for column := range p.columns {
			p.text += p.shown(column, row)
		}
		p.text += "\n"
	}
	for i, m := range list {
		if p.shown(p.squares[i][0], p.squares[i][1]) != m.Letter {
			p.hidden = append(p.hidden, m.Letter)
		}
	}
	return p
}

// shown is the smallest Letter in a square, or a period.
func (p ruledPlan) shown(column, row int) string {
	letters := []string{}
	for i, m := range p.list {
		if p.squares[i] == [2]int{column, row} {
			letters = append(letters, m.Letter)
		}
	}
	if len(letters) == 0 {
		return "."
	}
	return slices.Min(letters)
}

// ruledPlanScale goes through all scales from the greatest one down, 0 if none fits.
func ruledPlanScale(list []impl.PlanMark, columns, rows int) int {
	smallest := 0
	for scale := 500; scale >= 1 && len(list) > 0; scale-- {
		west, east, south, north := ruledEdges(list, scale)
		if east-west < columns && north-south < rows {
			smallest = scale
		}
	}
	return smallest
}

var planPattern = regexp.MustCompile(`^(?:[A-Z.]{1,20}\n){1,20}$`)

// ruledRead follows the document's words with patterns: a letter at each edge, none twice.
func ruledRead(s string) ([]impl.PlanMark, bool) {
	if !planPattern.MatchString(s) {
		return nil, false
	}
	lines := strings.Split(strings.TrimSuffix(s, "\n"), "\n")
	isWest, isEast := false, false
	for _, line := range lines {
		if len(line) != len(lines[0]) {
			return nil, false
		}
		isWest, isEast = isWest || line[0] != '.', isEast || line[len(line)-1] != '.'
	}
	isNorth, isSouth := strings.Trim(lines[0], ".") != "", strings.Trim(lines[len(lines)-1], ".") != ""
	if !isWest || !isEast || !isNorth || !isSouth {
		return nil, false
	}
	list := []impl.PlanMark{}
	for _, letter := range strings.Split(markLetters, "") {
		at := strings.Index(s, letter)
		if at < 0 {
			continue
		}
		if strings.LastIndex(s, letter) != at {
			return nil, false
		}
		width := len(lines[0]) + 1
		list = append(list, markOf(letter, at%width, -(at/width)))
	}
	return list, len(list) <= 12
}

func checkPlanSize(t *testing.T, list []impl.PlanMark, scale, columns, rows int) {
	t.Helper()
	if a, b, ok := impl.PlanSize(list, scale); !ok || a != columns || b != rows {
		t.Errorf("PlanSize(%v, %d) = %d, %d, %v, not %d, %d", list, scale, a, b, ok, columns, rows)
	}
}

func checkPlanText(t *testing.T, list []impl.PlanMark, scale int, want string) {
	t.Helper()
	if s, ok := impl.PlanText(list, scale); !ok || s != want {
		t.Errorf("PlanText(%v, %d) = %q, %v, not %q", list, scale, s, ok, want)
	}
}

func checkHidden(t *testing.T, list []impl.PlanMark, scale int, want ...string) {
	t.Helper()
	if letters, ok := impl.HiddenMarks(list, scale); !ok || !slices.Equal(letters, want) {
		t.Errorf("HiddenMarks(%v, %d) = %q, %v, not %q", list, scale, letters, ok, want)
	}
}

func checkSquare(t *testing.T, list []impl.PlanMark, scale int, letter string, column, row int) {
	t.Helper()
	if a, b, ok := impl.SquareOf(list, scale, letter); !ok || a != column || b != row {
		t.Errorf("SquareOf(%v, %d, %q) = %d, %d, %v, not %d, %d", list, scale, letter, a, b, ok, column, row)
	}
}

func checkNoSquare(t *testing.T, list []impl.PlanMark, scale int, letter string) {
	t.Helper()
	if a, b, ok := impl.SquareOf(list, scale, letter); ok || a != 0 || b != 0 {
		t.Errorf("SquareOf(%v, %d, %q) = %d, %d, %v", list, scale, letter, a, b, ok)
	}
}

func checkScale(t *testing.T, list []impl.PlanMark, columns, rows, want int) {
	t.Helper()
	if n, ok := impl.SmallestScale(list, columns, rows); !ok || n != want {
		t.Errorf("SmallestScale(%v, %d, %d) = %d, %v, not %d", list, columns, rows, n, ok, want)
	}
}

func checkNoScale(t *testing.T, list []impl.PlanMark, columns, rows int) {
	t.Helper()
	if n, ok := impl.SmallestScale(list, columns, rows); ok || n != 0 {
		t.Errorf("SmallestScale(%v, %d, %d) = %d, %v", list, columns, rows, n, ok)
	}
}

// checkAnyScale checks valid marks with columns and rows in 1..20, and holds what is told
// against PlanSize.
func checkAnyScale(t *testing.T, list []impl.PlanMark, columns, rows int) {
	t.Helper()
	want := ruledPlanScale(list, columns, rows)
	if want == 0 {
		checkNoScale(t, list, columns, rows)
		want = 501
	} else {
		checkScale(t, list, columns, rows, want)
	}
	for scale := 1; scale <= min(want, 500); scale++ {
		a, b, ok := impl.PlanSize(list, scale)
		if fits := ok && a <= columns && b <= rows; fits != (scale == want) {
			t.Errorf("at the scale %d %v has the size %d, %d, %v, and the smallest scale for %d, %d is %d", scale, list, a, b, ok, columns, rows, want)
		}
	}
}

func checkRead(t *testing.T, s string, want ...impl.PlanMark) {
	t.Helper()
	if list, ok := impl.ReadPlan(s); !ok || !slices.Equal(list, want) {
		t.Errorf("ReadPlan(%q) = %v, %v, not %v", s, list, ok, want)
	}
}

func checkNotRead(t *testing.T, s string) {
	t.Helper()
	if list, ok := impl.ReadPlan(s); ok || len(list) != 0 {
		t.Errorf("ReadPlan(%q) = %v, %v", s, list, ok)
	}
}

func checkAnyRead(t *testing.T, s string) {
	t.Helper()
	if want, ok := ruledRead(s); ok {
		checkRead(t, s, want...)
	} else {
		checkNotRead(t, s)
	}
}

func checkTurned(t *testing.T, list []impl.PlanMark, want ...impl.PlanMark) {
	t.Helper()
	if turned, ok := impl.TurnMarks(list); !ok || !slices.Equal(turned, want) {
		t.Errorf("TurnMarks(%v) = %v, %v, not %v", list, turned, ok, want)
	}
}

func checkNotTurned(t *testing.T, list []impl.PlanMark) {
	t.Helper()
	if turned, ok := impl.TurnMarks(list); ok || len(turned) != 0 {
		t.Errorf("TurnMarks(%v) = %v, %v", list, turned, ok)
	}
}

func checkMoved(t *testing.T, list []impl.PlanMark, east, north int, want ...impl.PlanMark) {
	t.Helper()
	if moved, ok := impl.MoveMarks(list, east, north); !ok || !slices.Equal(moved, want) {
		t.Errorf("MoveMarks(%v, %d, %d) = %v, %v, not %v", list, east, north, moved, ok, want)
	}
}

func checkNotMoved(t *testing.T, list []impl.PlanMark, east, north int) {
	t.Helper()
	if moved, ok := impl.MoveMarks(list, east, north); ok || len(moved) != 0 {
		t.Errorf("MoveMarks(%v, %d, %d) = %v, %v", list, east, north, moved, ok)
	}
}

// checkAnyMove checks valid marks.
func checkAnyMove(t *testing.T, list []impl.PlanMark, east, north int) {
	t.Helper()
	isOutside := east < -2000 || east > 2000 || north < -2000 || north > 2000
	moved := []impl.PlanMark{}
	for _, m := range list {
		moved = append(moved, markOf(m.Letter, m.East+east, m.North+north))
	}
	if isOutside || !ruledMarks(moved) {
		checkNotMoved(t, list, east, north)
		return
	}
	checkMoved(t, list, east, north, moved...)
	checkMoved(t, moved, -east, -north, list...)
}

// checkFourTurns checks that marks come to each direction and back.
func checkFourTurns(t *testing.T, list []impl.PlanMark) {
	t.Helper()
	for turn := range 4 {
		turned := []impl.PlanMark{}
		for _, m := range list {
			// From the east one turns to the south, from the north to the east.
			places := [][2]int{{m.East, m.North}, {m.North, -m.East}, {-m.East, -m.North}, {-m.North, m.East}, {m.East, m.North}}
			turned = append(turned, markOf(m.Letter, places[turn+1][0], places[turn+1][1]))
		}
		told, ok := list, true
		for range turn + 1 {
			told, ok = impl.TurnMarks(told)
		}
		if !ok || !slices.Equal(told, turned) {
			t.Errorf("turned %d times, %v is %v, %v, not %v", turn+1, list, told, ok, turned)
		}
	}
}

// checkNoPlan checks that there is no plan at a scale.
func checkNoPlan(t *testing.T, list []impl.PlanMark, scale int) {
	t.Helper()
	if a, b, ok := impl.PlanSize(list, scale); ok || a != 0 || b != 0 {
		t.Errorf("PlanSize(%v, %d) = %d, %d, %v", list, scale, a, b, ok)
	}
	if s, ok := impl.PlanText(list, scale); ok || s != "" {
		t.Errorf("PlanText(%v, %d) = %q, %v", list, scale, s, ok)
	}
	if letters, ok := impl.HiddenMarks(list, scale); ok || len(letters) != 0 {
		t.Errorf("HiddenMarks(%v, %d) = %q, %v", list, scale, letters, ok)
	}
	checkNoSquare(t, list, scale, "")
	checkNoSquare(t, list, scale, "A")
	for _, m := range list {
		checkNoSquare(t, list, scale, m.Letter)
	}
}

// checkShown checks that each Letter that HiddenMarks does not tell is in the square that
// SquareOf tells, that no other one is in the plan, and that all other squares are empty.
func checkShown(t *testing.T, list []impl.PlanMark, scale int) {
	t.Helper()
	text, isDrawn := impl.PlanText(list, scale)
	hidden, isTold := impl.HiddenMarks(list, scale)
	rows := strings.Split(text, "\n")
	seen := 0
	for _, m := range list {
		column, row, ok := impl.SquareOf(list, scale, m.Letter)
		if !ok || row >= len(rows) || column >= len(rows[row]) {
			t.Errorf("%q of %v is at %d, %d, %v of %q", m.Letter, list, column, row, ok, text)
			continue
		}
		isSeen := rows[row][column:column+1] == m.Letter
		if isSeen == slices.Contains(hidden, m.Letter) || isSeen != strings.Contains(text, m.Letter) {
			t.Errorf("%q of %v at %d, %d of %q, where %q are hidden", m.Letter, list, column, row, text, hidden)
		}
		if isSeen {
			seen++
		}
	}
	empty := strings.Count(text, ".") + strings.Count(text, "\n")
	if !isDrawn || !isTold || seen+len(hidden) != len(list) || seen+empty != len(text) {
		t.Errorf("%q of %v shows %d marks, and %q are hidden", text, list, seen, hidden)
	}
}

// checkPlan checks all that is told of the plan of valid marks at a valid scale.
func checkPlan(t *testing.T, list []impl.PlanMark, scale int) {
	t.Helper()
	p := ruledPlanOf(list, scale)
	if !p.fits {
		checkNoPlan(t, list, scale)
		return
	}
	checkPlanSize(t, list, scale, p.columns, p.rows)
	checkPlanText(t, list, scale, p.text)
	checkHidden(t, list, scale, p.hidden...)
	checkShown(t, list, scale)
	for _, letter := range strings.Split(markLetters, "") {
		i := slices.IndexFunc(list, func(m impl.PlanMark) bool { return m.Letter == letter })
		if i < 0 {
			checkNoSquare(t, list, scale, letter)
		} else {
			checkSquare(t, list, scale, letter, p.squares[i][0], p.squares[i][1])
		}
	}
	if scale == 1 && len(p.hidden) == 0 {
		want := []impl.PlanMark{}
		for i, m := range list {
			want = append(want, markOf(m.Letter, p.squares[i][0], -p.squares[i][1]))
		}
		checkRead(t, p.text, want...)
	}
}

// checkMarks checks all functions at marks against the document's words.
func checkMarks(t *testing.T, list []impl.PlanMark) {
	t.Helper()
	if !impl.AreMarks(list) {
		t.Errorf("AreMarks(%v) is false", list)
	}
	for _, scale := range []int{1, 2, 3, 7, 10, 50, 99, 100, 101, 333, 499, 500} {
		checkPlan(t, list, scale)
	}
	for _, scale := range []int{0, -1, -10, 501, 1000} {
		checkNoPlan(t, list, scale)
	}
	for _, size := range [][2]int{{1, 1}, {1, 20}, {20, 1}, {4, 5}, {20, 20}} {
		checkAnyScale(t, list, size[0], size[1])
	}
	checkNoScale(t, list, 0, 20)
	checkNoScale(t, list, 20, 21)
	checkFourTurns(t, list)
	for _, move := range [][2]int{{0, 0}, {1, 0}, {0, -1}, {-300, 700}, {2000, -2000}, {2001, 0}, {0, -2001}} {
		checkAnyMove(t, list, move[0], move[1])
	}
}

// checkNoMarks checks that no function takes the list, whatever else it is asked for.
func checkNoMarks(t *testing.T, list []impl.PlanMark) {
	t.Helper()
	if impl.AreMarks(list) {
		t.Errorf("AreMarks(%v)", list)
	}
	for _, scale := range []int{-1, 0, 1, 10, 500, 501} {
		checkNoPlan(t, list, scale)
	}
	checkNoScale(t, list, 1, 1)
	checkNoScale(t, list, 20, 20)
	checkNoScale(t, list, 0, 21)
	checkNotTurned(t, list)
	checkNotMoved(t, list, 0, 0)
	checkNotMoved(t, list, -1, 1)
	checkNotMoved(t, list, 2000, 2000)
	checkNotMoved(t, list, 2001, 0)
	// Moves that would bring a place back within the bounds.
	for _, m := range list {
		if m.East > -3001 && m.East < 3001 && m.North > -3001 && m.North < 3001 {
			checkNotMoved(t, list, -m.East, -m.North)
		}
	}
}

// spoiltMarks are invalid in one field each.
func spoiltMarks() []impl.PlanMark {
	list := []impl.PlanMark{}
	for _, letter := range []string{"", "a", "m", "z", "@", "[", ".", " ", "0", "\n", "\x00", "\xff", "AA", "MN", "Ma", "M.", "M\x00", "M\n", "\u00c4", "\u0391", strings.Repeat("M", 1<<16)} {
		list = append(list, markOf(letter, 5, -5))
	}
	for _, n := range []int{-1001, 1001, -2000, 2000, 1 << 32, -1 << 32, 1<<32 + 1, math.MinInt, math.MaxInt} {
		list = append(list, markOf("M", n, 5), markOf("M", 5, n))
	}
	return list
}

func TestPlanLimits(t *testing.T) {
	if impl.MaxMarks != 12 || impl.MaxPlan != 20 {
		t.Error("limits", impl.MaxMarks, impl.MaxPlan)
	}
}

func TestMarksAreAtMostTwelve(t *testing.T) {
	checkMarks(t, nil)
	checkMarks(t, []impl.PlanMark{})
	for count := range 13 {
		checkMarks(t, stepsOf(count, 1, 1))
		checkMarks(t, stepsOf(count, -37, 11))
	}
	for _, count := range []int{13, 14, 25, 26} {
		checkNoMarks(t, stepsOf(count, 0, 0))
		checkNoMarks(t, stepsOf(count, 1, 1))
	}
	checkMarks(t, stepsOf(26, 5, 5)[14:])
	checkNoMarks(t, stepsOf(26, 5, 5)[13:])
	checkNoMarks(t, slices.Repeat([]impl.PlanMark{markOf("A", 0, 0)}, 100))
}

func TestLettersOfMarksAscend(t *testing.T) {
	letters := strings.Split(markLetters, "")
	for _, a := range letters {
		checkMarks(t, []impl.PlanMark{markOf(a, -3, 8)})
		for _, b := range letters {
			list := []impl.PlanMark{markOf(a, 1, 2), markOf(b, -30, 40)}
			if a < b {
				checkMarks(t, list)
			} else {
				checkNoMarks(t, list)
			}
		}
	}
	full := stepsOf(12, 4, 4)
	for i := range 11 {
		equal, descending := slices.Clone(full), slices.Clone(full)
		equal[i].Letter = equal[i+1].Letter
		checkNoMarks(t, equal)
		checkNoMarks(t, equal[i:][:2])
		descending[i].Letter, descending[i+1].Letter = descending[i+1].Letter, descending[i].Letter
		checkNoMarks(t, descending)
		checkNoMarks(t, descending[i:][:2])
	}
	// Of two that are not next to each other, too.
	checkNoMarks(t, []impl.PlanMark{markOf("B", 0, 0), markOf("C", 0, 0), markOf("B", 0, 0)})
	checkNoMarks(t, []impl.PlanMark{markOf("B", 0, 0), markOf("C", 0, 0), markOf("A", 0, 0)})
}

func TestInvalidMarks(t *testing.T) {
	for _, m := range spoiltMarks() {
		checkNoMarks(t, []impl.PlanMark{m})
		checkNoMarks(t, []impl.PlanMark{markOf("A", 0, 0), m})
		checkNoMarks(t, []impl.PlanMark{m, markOf("Z", 0, 0)})
		checkNoMarks(t, []impl.PlanMark{markOf("A", 0, 0), m, markOf("Z", 1, 1)})
		checkNoMarks(t, slices.Insert(stepsOf(11, 1, 1), 6, m))
	}
	for _, n := range []int{-1000, -999, -1, 0, 1, 999, 1000} {
		for _, other := range []int{-1000, -999, 0, 999, 1000} {
			checkMarks(t, []impl.PlanMark{markOf("M", n, other)})
			checkMarks(t, []impl.PlanMark{markOf("L", other, n), markOf("M", n, other)})
		}
	}
}

// knownPlans follow the document's words by hand.
var knownPlans = []struct {
	list   []impl.PlanMark
	scale  int
	text   string
	hidden []string
}{
	{marksAt([2]int{0, 0}), 1, "A\n", nil},
	{[]impl.PlanMark{markOf("Z", -1000, 1000)}, 500, "Z\n", nil},
	{[]impl.PlanMark{markOf("Q", 17, -17)}, 1, "Q\n", nil},
	// The northernmost row comes first, and each goes from west to east.
	{marksAt([2]int{0, 0}, [2]int{1, 0}), 1, "AB\n", nil},
	{marksAt([2]int{1, 0}, [2]int{0, 0}), 1, "BA\n", nil},
	{marksAt([2]int{0, 0}, [2]int{0, 1}), 1, "B\nA\n", nil},
	{marksAt([2]int{0, 1}, [2]int{0, 0}), 1, "A\nB\n", nil},
	{marksAt([2]int{0, 0}, [2]int{2, 1}), 1, "..B\nA..\n", nil},
	{marksAt([2]int{2, 0}, [2]int{0, 1}), 1, "B..\n..A\n", nil},
	{marksAt([2]int{0, 0}, [2]int{2, 2}, [2]int{1, 4}), 1, ".C.\n...\n..B\n...\nA..\n", nil},
	{marksAt([2]int{0, 0}, [2]int{15, 5}, [2]int{4, -12}), 10, "AB\n..\nC.\n", nil},
	// What is below 0 is rounded down, so that there are two squares around 0 and not one.
	{marksAt([2]int{-1, 0}, [2]int{0, -1}), 500, "A.\n.B\n", nil},
	{marksAt([2]int{-9, 0}, [2]int{9, 0}), 10, "AB\n", nil},
	{marksAt([2]int{0, -9}, [2]int{0, 9}), 10, "B\nA\n", nil},
	{marksAt([2]int{-10, 0}, [2]int{9, 0}), 10, "AB\n", nil},
	{marksAt([2]int{-11, 0}, [2]int{9, 0}), 10, "A.B\n", nil},
	{marksAt([2]int{-11, 0}, [2]int{10, 0}), 10, "A..B\n", nil},
	{marksAt([2]int{0, 10}, [2]int{0, -11}), 10, "A\n.\n.\nB\n", nil},
	{marksAt([2]int{-20, -20}, [2]int{-11, -11}), 10, "A\n", []string{"B"}},
	{marksAt([2]int{-20, -20}, [2]int{-10, -10}), 10, ".B\nA.\n", nil},
	{marksAt([2]int{-21, -20}, [2]int{-20, -21}), 10, "A.\n.B\n", nil},
	{marksAt([2]int{-1000, -1000}, [2]int{1000, 1000}, [2]int{-500, 500}, [2]int{-501, 499}), 500, "....B\n.C...\nD....\n.....\nA....\n", nil},
	// Of several marks in a square, the smallest Letter is shown.
	{marksAt([2]int{0, 0}, [2]int{0, 0}), 1, "A\n", []string{"B"}},
	{marksAt([2]int{3, 3}, [2]int{9, 9}, [2]int{0, 0}), 10, "A\n", []string{"B", "C"}},
	{marksAt([2]int{3, 3}, [2]int{19, 9}, [2]int{0, 0}, [2]int{10, 0}), 10, "AB\n", []string{"C", "D"}},
	{marksAt([2]int{3, 3}, [2]int{10, 9}, [2]int{19, 0}, [2]int{-1, 0}), 10, "DAB\n", []string{"C"}},
	{[]impl.PlanMark{markOf("C", 5, 5), markOf("K", 5, 5), markOf("L", 6, 5), markOf("Z", 6, 5)}, 1, "CL\n", []string{"K", "Z"}},
	{stepsOf(12, 0, 0), 1, "A\n", []string{"B", "C", "D", "E", "F", "G", "H", "I", "J", "K", "L"}},
	{stepsOf(12, -1, -1), 6, "..A\n.B.\nH..\n", []string{"C", "D", "E", "F", "G", "I", "J", "K", "L"}},
	{stepsOf(12, 1, 0), 1, "ABCDEFGHIJKL\n", nil},
	{stepsOf(12, 0, -1), 1, "A\nB\nC\nD\nE\nF\nG\nH\nI\nJ\nK\nL\n", nil},
	{stepsOf(12, 45, 0), 90, "ACEGIK\n", []string{"B", "D", "F", "H", "J", "L"}},
}

func TestPlansOfKnownMarks(t *testing.T) {
	for _, c := range knownPlans {
		checkPlanText(t, c.list, c.scale, c.text)
		checkHidden(t, c.list, c.scale, c.hidden...)
		checkPlan(t, c.list, c.scale)
		checkMarks(t, c.list)
	}
}

// TestPlanSizesBesideZero has a mark in the square 0 and another one beside it.
func TestPlanSizesBesideZero(t *testing.T) {
	for _, c := range []struct{ scale, place, count int }{
		{1, -1, 2}, {1, -2, 3}, {1, 0, 1}, {1, 1, 2}, {2, -1, 2}, {2, -2, 2}, {2, -3, 3}, {3, -3, 2}, {3, -4, 3},
		{10, -1, 2}, {10, -9, 2}, {10, -10, 2}, {10, -11, 3}, {10, -19, 3}, {10, -20, 3}, {10, -21, 4},
		{10, 9, 1}, {10, 10, 2}, {10, 19, 2}, {10, 20, 3}, {100, -1000, 11}, {100, -999, 11}, {100, 1000, 11}, {100, 999, 10},
		{500, -1, 2}, {500, -499, 2}, {500, -500, 2}, {500, -501, 3}, {500, -999, 3}, {500, -1000, 3}, {500, 499, 1}, {500, 1000, 3},
	} {
		checkPlanSize(t, marksAt([2]int{0, 0}, [2]int{c.place, 0}), c.scale, c.count, 1)
		checkPlanSize(t, marksAt([2]int{0, c.place}, [2]int{0, 0}), c.scale, 1, c.count)
		checkPlanSize(t, marksAt([2]int{c.place, 0}, [2]int{0, 0}, [2]int{0, c.place}), c.scale, c.count, c.count)
	}
	for scale := 1; scale <= 30; scale++ {
		for a := -25; a <= 25; a++ {
			for b := -25; b <= 25; b++ {
				checkPlan(t, marksAt([2]int{a, 1}, [2]int{b, -1}), scale)
				checkPlan(t, marksAt([2]int{-1, a}, [2]int{1, b}), scale)
			}
		}
		stopIfFailed(t)
	}
}

func TestPlansAtTheGreatestSize(t *testing.T) {
	for _, scale := range []int{1, 2, 7, 10, 50, 99, 100} {
		for _, place := range []int{-10 * scale, -1000, -19 * scale, 0, 1000 - 20*scale} {
			least := max(-1000, scale*ruledSquare(place, scale))
			last := scale*(ruledSquare(least, scale)+20) - 1
			for i, greatest := range []int{last - scale, last, last + 1} {
				if greatest > 1000 {
					continue
				}
				count := 19 + i
				wide := marksAt([2]int{least, 5}, [2]int{greatest, 5})
				high := marksAt([2]int{5, greatest}, [2]int{5, least})
				both := marksAt([2]int{least, greatest}, [2]int{greatest, least})
				if count == 21 {
					checkNoPlan(t, wide, scale)
					checkNoPlan(t, high, scale)
					checkNoPlan(t, both, scale)
					continue
				}
				checkPlanSize(t, wide, scale, count, 1)
				checkPlanSize(t, high, scale, 1, count)
				checkPlanSize(t, both, scale, count, count)
				checkPlanText(t, wide, scale, "A"+strings.Repeat(".", count-2)+"B\n")
				checkPlanText(t, high, scale, "A\n"+strings.Repeat(".\n", count-2)+"B\n")
				checkPlan(t, both, scale)
			}
		}
	}
	// One direction is too long, and the other one is not.
	checkNoPlan(t, marksAt([2]int{0, 0}, [2]int{20, 3}), 1)
	checkNoPlan(t, marksAt([2]int{0, 0}, [2]int{3, 20}), 1)
	checkNoPlan(t, marksAt([2]int{-1000, 0}, [2]int{1000, 0}), 1)
	checkNoPlan(t, marksAt([2]int{-1000, 1000}, [2]int{1000, -1000}), 99)
}

func TestScalesOfPlans(t *testing.T) {
	for _, list := range [][]impl.PlanMark{marksAt([2]int{0, 0}), marksAt([2]int{-3, 2}, [2]int{4, 4}), stepsOf(12, 1, -1)} {
		for scale := 1; scale <= 500; scale++ {
			checkPlan(t, list, scale)
		}
		for _, scale := range []int{0, -1, -2, -500, 501, 502, 1000, 1 << 32, 1<<32 + 1, -1 << 32, math.MinInt, math.MinInt + 1, math.MaxInt} {
			checkNoPlan(t, list, scale)
		}
	}
	for _, scale := range []int{-1, 0, 1, 10, 500, 501} {
		checkNoPlan(t, nil, scale)
		checkNoPlan(t, []impl.PlanMark{}, scale)
	}
}

func TestSmallestScalesOfKnownMarks(t *testing.T) {
	shaft := marksAt([2]int{0, 0}, [2]int{15, 5}, [2]int{4, -12})
	checkScale(t, shaft, 2, 2, 12)
	checkScale(t, shaft, 1, 2, 16)
	checkScale(t, shaft, 2, 3, 8)
	checkScale(t, shaft, 3, 2, 12)
	checkScale(t, shaft, 16, 18, 1)
	checkScale(t, shaft, 16, 17, 2)
	checkScale(t, shaft, 15, 18, 2)
	checkNoScale(t, shaft, 2, 1)
	for _, size := range [][2]int{{1, 1}, {1, 20}, {20, 1}, {20, 20}, {7, 3}} {
		checkScale(t, marksAt([2]int{0, 0}), size[0], size[1], 1)
		checkScale(t, marksAt([2]int{-1000, 1000}), size[0], size[1], 1)
		checkScale(t, stepsOf(12, 0, 0), size[0], size[1], 1)
		checkNoScale(t, nil, size[0], size[1])
		checkNoScale(t, []impl.PlanMark{}, size[0], size[1])
	}
	for _, c := range []struct{ a, b, count, want int }{
		{0, 19, 20, 1}, {-10, 9, 20, 1}, {0, 20, 20, 2}, {0, 1, 1, 2}, {0, 499, 1, 500}, {0, 498, 1, 499},
		{0, 999, 2, 500}, {-500, 499, 2, 500}, {-1000, 1000, 5, 500}, {-1000, 1000, 20, 101}, {0, 1000, 3, 334},
		{0, 500, 1, 0}, {-1, 0, 1, 0}, {-1000, 1000, 4, 0}, {0, 1000, 2, 0}, {-501, 0, 2, 0},
		// These fit at a scale, but not at the next greater one.
		{7, 8, 1, 3}, {-9, -8, 1, 3}, {11, 13, 1, 5}, {119, 120, 1, 7},
	} {
		wide, high := marksAt([2]int{c.a, 0}, [2]int{c.b, 0}), marksAt([2]int{0, c.a}, [2]int{0, c.b})
		for _, other := range []int{1, 2, 20} {
			if c.want == 0 {
				checkNoScale(t, wide, c.count, other)
				checkNoScale(t, high, other, c.count)
			} else {
				checkScale(t, wide, c.count, other, c.want)
				checkScale(t, high, other, c.count, c.want)
			}
			checkAnyScale(t, wide, c.count, other)
			checkAnyScale(t, high, other, c.count)
		}
	}
}

func TestSmallestScalesOfInvalidSizes(t *testing.T) {
	for _, list := range [][]impl.PlanMark{nil, marksAt([2]int{0, 0}), stepsOf(12, 1, 1)} {
		for _, n := range []int{0, -1, -20, 21, 22, 1 << 32, 1<<32 + 1, math.MinInt, math.MaxInt} {
			for _, other := range []int{1, 12, 20, n} {
				checkNoScale(t, list, n, other)
				checkNoScale(t, list, other, n)
			}
		}
	}
}

func TestSquaresOfKnownMarks(t *testing.T) {
	list := []impl.PlanMark{markOf("B", -11, 25), markOf("D", 30, -1), markOf("E", -20, 20), markOf("G", 5, 5), markOf("W", 9, 9)}
	checkPlanText(t, list, 10, "B.....\n......\n..G...\n.....D\n")
	checkHidden(t, list, 10, "E", "W")
	for letter, square := range map[string][2]int{"B": {0, 0}, "D": {5, 3}, "E": {0, 0}, "G": {2, 2}, "W": {2, 2}} {
		checkSquare(t, list, 10, letter, square[0], square[1])
	}
	for _, letter := range append(oddStrings(), "A", "C", "F", "Z", "b", "BD", "B\n", " B", "@", "[", ".", " ") {
		checkNoSquare(t, list, 10, letter)
		checkNoSquare(t, list, 0, letter)
		checkNoSquare(t, nil, 10, letter)
	}
	for _, scale := range []int{0, -10, 501} {
		checkNoSquare(t, list, scale, "B")
	}
	checkNoSquare(t, list, 1, "B")
	// A mark that is not valid makes the whole list invalid, even if another one is asked for.
	checkNoSquare(t, append(slices.Clone(list), markOf("", 0, 0)), 10, "")
	checkNoSquare(t, append(slices.Clone(list), markOf("", 0, 0)), 10, "B")
	checkNoSquare(t, append(slices.Clone(list), markOf("A", 0, 0)), 10, "A")
}

func TestReadPlansByHand(t *testing.T) {
	checkRead(t, "A\n", markOf("A", 0, 0))
	checkRead(t, "Z\n", markOf("Z", 0, 0))
	checkRead(t, "AB\n", markOf("A", 0, 0), markOf("B", 1, 0))
	checkRead(t, "BA\n", markOf("A", 1, 0), markOf("B", 0, 0))
	checkRead(t, "B\nA\n", markOf("A", 0, -1), markOf("B", 0, 0))
	checkRead(t, "AB\n..\nC.\n", markOf("A", 0, 0), markOf("B", 1, 0), markOf("C", 0, -2))
	checkRead(t, "..Q\nB..\n.A.\n", markOf("A", 1, -2), markOf("B", 0, -1), markOf("Q", 2, 0))
	checkRead(t, "LKJIHGFEDCBA\n", marksAt([2]int{11, 0}, [2]int{10, 0}, [2]int{9, 0}, [2]int{8, 0}, [2]int{7, 0}, [2]int{6, 0}, [2]int{5, 0}, [2]int{4, 0}, [2]int{3, 0}, [2]int{2, 0}, [2]int{1, 0}, [2]int{0, 0})...)
	checkRead(t, "ABCD\nEFGH\nIJKL\n", marksAt([2]int{0, 0}, [2]int{1, 0}, [2]int{2, 0}, [2]int{3, 0}, [2]int{0, -1}, [2]int{1, -1}, [2]int{2, -1}, [2]int{3, -1}, [2]int{0, -2}, [2]int{1, -2}, [2]int{2, -2}, [2]int{3, -2})...)
	row := strings.Repeat(".", 20) + "\n"
	checkRead(t, "A"+row[1:]+strings.Repeat(row, 18)+row[1:20]+"B\n", markOf("A", 0, 0), markOf("B", 19, -19))
	checkRead(t, "A"+strings.Repeat(".", 18)+"B\n", markOf("A", 0, 0), markOf("B", 19, 0))
	checkRead(t, "A\n"+strings.Repeat(".\n", 18)+"B\n", markOf("A", 0, 0), markOf("B", 0, -19))
}

// wrongPlans are no plans at the scale 1 of marks of which none is hidden.
func wrongPlans() []string {
	row := strings.Repeat(".", 20) + "\n"
	return []string{
		// The last newline is not there, or there are too many.
		"", "\n", "\n\n", "A", "AB", "A\nB", "A.\n.B", "A\n\n", "\nA\n", "A\n\nB\n", "A\r\n", "A\n\x00", "A\nB\n.",
		// Rows have different lengths.
		"AB\nC\n", "A\nBC\n", "A.\n.\nB.\n", "A\n.B\n", ".A\nB\n", "A.\n.B\n.\n",
		// An edge is empty.
		"A.\n", ".A\n", "A\n.\n", ".\nA\n", "A.\nB.\n", ".A\n.B\n", "..\nAB\n", "AB\n..\n", "...\n.A.\n...\n",
		// A Letter is there twice.
		"AA\n", "A\nA\n", "ABA\n", "A.\n.A\n", "ZYXZ\n",
		// Other characters.
		"a\n", "A b\n", "A,B\n", "A B\n", "A*\n.B\n", "1\n", "A-B\n", "A\tB\n", "A\x00B\n", "A\u00c4B\n", "A\xc4B\n", "@A\n", "A[B\n", "A/B\n",
		// No mark.
		".\n", "..\n..\n", row, strings.Repeat(row, 20),
		// Too many rows, columns or marks.
		"A" + strings.Repeat(".", 19) + "B\n", "A\n" + strings.Repeat(".\n", 19) + "B\n",
		"A" + row[1:] + strings.Repeat(row, 19) + row[1:20] + "B\n", "A." + row[1:] + strings.Repeat("."+row, 18) + row[:20] + "B\n",
		"ABCDEFGHIJKLM\n", "ABCDEFGHIJKLN\n", "ABCDEFGHIJKLMNOPQRST\n", strings.Join(strings.Split("ABCDEFGHIJKLM", ""), "\n") + "\n",
		// Long texts.
		strings.Repeat("A\n", 1000), strings.Repeat("A.\n", 1333), strings.Repeat("\n", 4000), "A" + strings.Repeat(".", 1000) + "B\n",
		"A" + strings.Repeat(".", 3997) + "B\n", "A\n" + strings.Repeat(".\n", 1998) + "B\n", "A" + strings.Repeat(".\n", 1<<18), strings.Repeat("A", 1<<18) + "\n", strings.Repeat(markLetters, 1<<12),
	}
}

func TestReadPlanOfWrongTexts(t *testing.T) {
	for _, s := range append(oddStrings(), wrongPlans()...) {
		checkNotRead(t, s)
		if _, ok := ruledRead(s); ok {
			t.Errorf("%q is a plan", s)
		}
	}
}

func TestReadPlanOfChangedTexts(t *testing.T) {
	for _, s := range []string{"A\n", "AB\n", "A.\n.B\n", "AB\n..\nC.\n", "..Q\nB..\n.A.\n", "ABCDEF\n......\nLKJIHG\n"} {
		changedTexts(s, func(s string) { checkAnyRead(t, s) })
		stopIfFailed(t)
	}
}

func TestReadPlanOfAllShortTexts(t *testing.T) {
	counts := map[bool]int{}
	texts := []string{""}
	for range 8 {
		longer := []string{}
		for _, s := range texts {
			for _, c := range []string{"A", "B", ".", "\n"} {
				longer = append(longer, s+c)
			}
		}
		texts = longer
		for _, s := range texts {
			checkAnyRead(t, s)
			_, ok := ruledRead(s)
			counts[ok]++
		}
		stopIfFailed(t)
	}
	if counts[true] < 20 || counts[false] < 80000 {
		t.Error("plans and other texts", counts)
	}
}

func TestTurnedMarks(t *testing.T) {
	checkTurned(t, nil)
	checkTurned(t, []impl.PlanMark{})
	north, east, south, west := markOf("A", 0, 7), markOf("A", 7, 0), markOf("A", 0, -7), markOf("A", -7, 0)
	checkTurned(t, []impl.PlanMark{north}, east)
	checkTurned(t, []impl.PlanMark{east}, south)
	checkTurned(t, []impl.PlanMark{south}, west)
	checkTurned(t, []impl.PlanMark{west}, north)
	checkTurned(t, []impl.PlanMark{{Letter: "X"}}, markOf("X", 0, 0))
	checkTurned(t, marksAt([2]int{15, 5}, [2]int{4, -12}, [2]int{1000, 1000}, [2]int{-1000, 999}), marksAt([2]int{5, -15}, [2]int{-12, -4}, [2]int{1000, -1000}, [2]int{999, 1000})...)
	for _, m := range spoiltMarks() {
		checkNotTurned(t, []impl.PlanMark{m})
		checkNotTurned(t, []impl.PlanMark{markOf("A", 1, 1), m})
	}
	checkNotTurned(t, stepsOf(13, 1, 1))
	checkFourTurns(t, stepsOf(12, 90, -83))
}

// TestPlansOfTurnedMarks turns the text instead of the places: its columns become rows.
func TestPlansOfTurnedMarks(t *testing.T) {
	n := numbers{13}
	for i := range 500 {
		list := n.marks(1+i%12, 9)
		text, one := impl.PlanText(list, 1)
		turned, two := impl.TurnMarks(list)
		told, three := impl.PlanText(turned, 1)
		rows := strings.Fields(text)
		want := ""
		for column := range len(rows[0]) {
			for _, row := range slices.Backward(rows) {
				want += row[column : column+1]
			}
			want += "\n"
		}
		if !one || !two || !three || told != want {
			t.Errorf("the plan of %v is %q, and that of the turned %v %q, not %q", list, text, turned, told, want)
		}
	}
}

func TestMovedMarks(t *testing.T) {
	low, high, middle := markOf("A", -1000, -1000), markOf("A", 1000, 1000), markOf("A", 0, 0)
	checkMoved(t, []impl.PlanMark{low}, 2000, 2000, high)
	checkMoved(t, []impl.PlanMark{high}, -2000, -2000, low)
	checkMoved(t, []impl.PlanMark{low}, 0, 2000, markOf("A", -1000, 1000))
	checkMoved(t, []impl.PlanMark{low}, 2000, 0, markOf("A", 1000, -1000))
	checkMoved(t, []impl.PlanMark{middle}, 1000, -1000, markOf("A", 1000, -1000))
	checkMoved(t, marksAt([2]int{0, 0}, [2]int{15, 5}, [2]int{4, -12}), -900, 3, marksAt([2]int{-900, 3}, [2]int{-885, 8}, [2]int{-896, -9})...)
	for _, move := range [][2]int{{2001, 2000}, {2000, 2001}, {-1, 0}, {0, -1}, {-2001, 0}, {0, -2001}} {
		checkNotMoved(t, []impl.PlanMark{low}, move[0], move[1])
		checkNotMoved(t, []impl.PlanMark{high}, -move[0], -move[1])
	}
	// No marks can be moved as far as any.
	for _, list := range [][]impl.PlanMark{nil, {}} {
		for _, n := range []int{-2000, -1, 0, 1, 2000} {
			checkMoved(t, list, n, 0)
			checkMoved(t, list, 0, n)
			checkMoved(t, list, n, n)
			checkMoved(t, list, n, -n)
		}
		for _, n := range []int{-2001, 2001, 1 << 32, math.MinInt, math.MaxInt} {
			checkNotMoved(t, list, n, 0)
			checkNotMoved(t, list, 0, n)
			checkNotMoved(t, list, n, n)
		}
	}
	// One of several leaves the bounds by one.
	for i := range 12 {
		list := stepsOf(12, 3, -3)
		list[i].East = 700
		checkAnyMove(t, list, 300, 0)
		checkNotMoved(t, list, 301, 0)
		list[i].East, list[i].North = 0, -700
		checkAnyMove(t, list, 0, -300)
		checkNotMoved(t, list, 0, -301)
		list[i].East, list[i].North = -700, 700
		checkAnyMove(t, list, -300, 300)
		checkNotMoved(t, list, -301, 300)
		checkNotMoved(t, list, -300, 301)
	}
}

// TestPlansOfMovedMarks moves marks by whole squares, after which the plan is the same.
func TestPlansOfMovedMarks(t *testing.T) {
	n := numbers{31}
	for i := range 500 {
		scale := n.within(1, 50)
		list := n.marks(1+i%12, 400)
		east, north := scale*n.within(-600/scale, 600/scale), scale*n.within(-600/scale, 600/scale)
		moved, ok := impl.MoveMarks(list, east, north)
		one, isOne := impl.PlanText(list, scale)
		two, isTwo := impl.PlanText(moved, scale)
		if !ok || isOne != isTwo || one != two {
			t.Errorf("the plan of %v is %q, and that of %v %q", list, one, moved, two)
		}
		checkAnyMove(t, list, east, north)
	}
}

// TestPlansShowAllMarksThatAreNotHidden has marks with a square each, some or all of them in
// one square, on both sides of 0.
func TestPlansShowAllMarksThatAreNotHidden(t *testing.T) {
	for count := 1; count <= 12; count++ {
		for _, scale := range []int{1, 2, 3, 10, 17, 40} {
			for _, start := range [][2]int{{0, 0}, {-1, -1}, {-5, 3}, {-6 * scale, -6 * scale}, {3 - 11*scale, 5}} {
				one, each, some := []impl.PlanMark{}, []impl.PlanMark{}, []impl.PlanMark{}
				for i := range count {
					one = append(one, markOf(markLetters[25-count+i:][:1], scale*ruledSquare(start[0], scale)+i%scale, scale*ruledSquare(start[1], scale)))
					each = append(each, markOf(markLetters[2*i:2*i+1], start[0]+i*scale, start[1]-i*7%12*scale))
					some = append(some, markOf(markLetters[i:i+1], start[0]+i*7%12*scale/3, start[1]+i*5%12*scale/3))
				}
				for _, list := range [][]impl.PlanMark{one, each, some} {
					checkShown(t, list, scale)
					checkPlan(t, list, scale)
				}
				letters := []string{}
				for _, m := range one[1:] {
					letters = append(letters, m.Letter)
				}
				checkHidden(t, one, scale, letters...)
				checkHidden(t, each, scale)
				checkPlanSize(t, one, scale, 1, 1)
				stopIfFailed(t)
			}
		}
	}
}

// marks makes count of them with random Letters, at places at most spread from a random one.
func (n *numbers) marks(count, spread int) []impl.PlanMark {
	letters := strings.Split(markLetters, "")
	for len(letters) > count {
		at := n.next(len(letters))
		letters = slices.Delete(letters, at, at+1)
	}
	east, north := 0, 0
	if spread <= 100 && n.next(3) > 0 {
		east, north = n.within(-900, 900), n.within(-900, 900)
	}
	list := []impl.PlanMark{}
	for _, letter := range letters {
		list = append(list, markOf(letter, east+n.within(-spread, spread), north+n.within(-spread, spread)))
	}
	return list
}

func kindsOfPlans(p ruledPlan) map[string]bool {
	kinds := map[string]bool{"too large": !p.fits, "none hidden": p.fits && len(p.hidden) == 0, "some hidden": p.fits && len(p.hidden) > 0 && len(p.hidden) < len(p.list)-1}
	kinds["all but one hidden"] = p.fits && len(p.list) > 2 && len(p.hidden) == len(p.list)-1
	isLeft, isRight := false, false
	for _, m := range p.list {
		isLeft, isRight = isLeft || m.East < 0, isRight || m.East >= 0
	}
	kinds["on both sides of 0"], kinds["below 0"], kinds["above 0"] = isLeft && isRight, !isRight, !isLeft
	kinds["wider than high"], kinds["higher than wide"] = p.fits && p.columns > p.rows, p.fits && p.rows > p.columns
	return kinds
}

func TestManyPlans(t *testing.T) {
	n, counts := numbers{71}, map[string]int{}
	for i := range 3000 {
		list := n.marks(1+i%12, []int{0, 1, 3, 10, 30, 100, 1000}[n.next(7)])
		scale := []int{1, n.within(1, 5), n.within(1, 60), n.within(1, 500)}[n.next(4)]
		p := ruledPlanOf(list, scale)
		checkPlan(t, list, scale)
		checkPlan(t, list, 1)
		checkFourTurns(t, list)
		checkAnyMove(t, list, n.within(-200, 200), n.within(-200, 200))
		checkAnyMove(t, list, n.within(-2001, 2001), n.within(-2001, 2001))
		if i%10 == 0 {
			checkAnyScale(t, list, n.within(1, 20), n.within(1, 20))
			checkAnyScale(t, list, n.within(1, 4), n.within(1, 4))
		}
		for kind, isSo := range kindsOfPlans(p) {
			if isSo {
				counts[kind]++
			}
		}
		stopIfFailed(t)
	}
	for _, kind := range []string{"too large", "none hidden", "some hidden", "all but one hidden", "on both sides of 0", "below 0", "above 0", "wider than high", "higher than wide"} {
		if counts[kind] < 100 {
			t.Errorf("only %d plans of the kind %q", counts[kind], kind)
		}
	}
}

var planNumbers = []int{math.MinInt, math.MinInt + 1, -1 << 62, -1 << 32, -2001, -2000, -1001, -1000, -1, 0, 1, 20, 21, 500, 501, 1000, 1001, 2000, 2001, 1 << 32, 1 << 62, math.MaxInt - 1, math.MaxInt}

func TestPlanFunctionsReturnForAllArguments(t *testing.T) {
	valid := marksAt([2]int{-1000, 1000}, [2]int{-990, 995}, [2]int{0, 0})
	for _, a := range planNumbers {
		for _, list := range [][]impl.PlanMark{nil, valid, valid[:2], valid[2:]} {
			if a >= 1 && a <= 500 {
				checkPlan(t, list, a)
			} else {
				checkNoPlan(t, list, a)
			}
			for _, b := range planNumbers {
				checkAnyMove(t, list, a, b)
				if a >= 1 && a <= 20 && b >= 1 && b <= 20 {
					checkAnyScale(t, list, a, b)
				} else {
					checkNoScale(t, list, a, b)
				}
			}
		}
		for _, b := range planNumbers {
			for _, list := range [][]impl.PlanMark{{markOf("M", a, b)}, {markOf("A", 0, 0), markOf("M", a, b)}, {markOf("M", b, a), markOf("Z", a, a)}} {
				if ruledMarks(list) {
					checkMarks(t, list)
				} else {
					checkNoMarks(t, list)
				}
			}
		}
		stopIfFailed(t)
	}
	for _, s := range oddStrings() {
		checkAnyRead(t, s)
		checkNoSquare(t, valid, 100, s)
		checkNoMarks(t, []impl.PlanMark{markOf(s, 0, 0)})
	}
}

func TestPlanFunctionsLeaveTheirLists(t *testing.T) {
	// Behind the length of a list there are elements that are neither read nor written.
	list := append(stepsOf(12, 2, -3), markOf("?", 7777, 7777), markOf("A", 0, 0))
	before := slices.Clone(list)
	for first := range 13 {
		for last := first; last <= 12; last++ {
			checkMarks(t, list[first:last])
			if !slices.Equal(list, before) {
				t.Fatal("the list was modified", list)
			}
		}
	}
	checkNoMarks(t, list)
	checkNoMarks(t, list[:13])
	checkNoMarks(t, list[11:])
	if !slices.Equal(list, before) {
		t.Error("the list was modified", list)
	}
}

// TestResultsOfPlanFunctionsAreTheirOwn writes to all results and behind their lengths, and asks
// again.
func TestResultsOfPlanFunctionsAreTheirOwn(t *testing.T) {
	const text = "A..\n.B.\n..C\n"
	for _, list := range [][]impl.PlanMark{stepsOf(1, 1, -1), stepsOf(3, 1, -1), stepsOf(12, 1, -1)} {
		given := append(slices.Clone(list), make([]impl.PlanMark, 9)...)
		for range 2 {
			turned, _ := impl.TurnMarks(given[:len(list)])
			moved, _ := impl.MoveMarks(given[:len(list)], 0, 0)
			read, _ := impl.ReadPlan(text)
			for _, result := range [][]impl.PlanMark{turned[:cap(turned)], moved[:cap(moved)], read[:cap(read)]} {
				for i := range result {
					result[i] = markOf("?", 7777, 7777)
				}
			}
			hidden, _ := impl.HiddenMarks(given[:len(list)], 20)
			for i := range hidden[:cap(hidden)] {
				hidden[:cap(hidden)][i] = "?"
			}
			if !slices.Equal(given[:len(list)], list) || !slices.Equal(given[len(list):], make([]impl.PlanMark, 9)) {
				t.Error("a result shares memory", given)
			}
			checkMarks(t, given[:len(list)])
			checkPlan(t, given[:len(list)], 20)
			checkRead(t, text, stepsOf(3, 1, -1)...)
		}
	}
}
