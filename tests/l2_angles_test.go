package tests

import (
	"math"
	"testing"

	"loop.example/g00933/impl"
)

// sineRows is the document's table: the sines of 10*i to 10*i + 9 degrees, and that of 90.
var sineRows = [][]int{
	{0, 17, 35, 52, 70, 87, 105, 122, 139, 156},
	{174, 191, 208, 225, 242, 259, 276, 292, 309, 326},
	{342, 358, 375, 391, 407, 423, 438, 454, 469, 485},
	{500, 515, 530, 545, 559, 574, 588, 602, 616, 629},
	{643, 656, 669, 682, 695, 707, 719, 731, 743, 755},
	{766, 777, 788, 799, 809, 819, 829, 839, 848, 857},
	{866, 875, 883, 891, 899, 906, 914, 921, 927, 934},
	{940, 946, 951, 956, 961, 966, 970, 974, 978, 982},
	{985, 988, 990, 993, 995, 996, 998, 999, 999, 1000},
	{1000},
}

// ruledSine follows the document's rules one by one down to its table.
func ruledSine(d int) int {
	switch {
	case d < 0:
		return -ruledSine(-d)
	case d > 180:
		return ruledSine(d - 360)
	case d > 90:
		return ruledSine(90 - (d - 90))
	}
	return sineRows[d/10][d%10]
}

func ruledCosine(d int) int { return ruledSine(d + 90) }

// oddNumbers are at and around every limit of the chapter, and far beyond.
var oddNumbers = []int{
	0, 1, -1, 2, 89, 90, 91, -90, -91, 179, 180, 181, 269, 270, 271, 358, 359, 360, 361, -359, -360,
	impl.MaxDegrees - 1, impl.MaxDegrees, impl.MaxDegrees + 1, -impl.MaxDegrees, -impl.MaxDegrees - 1,
	impl.MaxLong - 1, impl.MaxLong, impl.MaxLong + 1, -impl.MaxLong, -impl.MaxLong - 1,
	999999, 1000000, 1000001, -1000000, 999999999, 1000000000, 1000000001, -1000000000, -1000000001,
	math.MaxInt32, math.MinInt32, 1 << 40, -1 << 40, math.MaxInt - 1, math.MaxInt, math.MinInt, math.MinInt + 1,
}

func isLength(n int) bool { return n >= -impl.MaxLong && n <= impl.MaxLong }

func isBearing(n int) bool { return n >= 0 && n <= 359 }

func isAngle(n int) bool { return n >= -impl.MaxDegrees && n <= impl.MaxDegrees }

func TestAngleLimits(t *testing.T) {
	if impl.MaxDegrees != 3600 || impl.MaxLong != 100000 {
		t.Error("limits", impl.MaxDegrees, impl.MaxLong)
	}
}

func TestSineAndCosineFollowTheTable(t *testing.T) {
	for d := -impl.MaxDegrees; d <= impl.MaxDegrees; d++ {
		if s, ok := impl.SineOf(d); !ok || s != ruledSine(d) {
			t.Errorf("SineOf(%d) = %d, %v, not %d", d, s, ok, ruledSine(d))
		}
		if c, ok := impl.CosineOf(d); !ok || c != ruledCosine(d) {
			t.Errorf("CosineOf(%d) = %d, %v, not %d", d, c, ok, ruledCosine(d))
		}
	}
}

func TestSineAndCosineAtKnownAngles(t *testing.T) {
	cases := []struct{ d, sine, cosine int }{
		{0, 0, 1000}, {1, 17, 1000}, {30, 500, 866}, {45, 707, 707}, {60, 866, 500}, {89, 1000, 17}, {90, 1000, 0},
		{91, 1000, -17}, {135, 707, -707}, {150, 500, -866}, {179, 17, -1000}, {180, 0, -1000}, {181, -17, -1000},
		{210, -500, -866}, {269, -1000, -17}, {270, -1000, 0}, {271, -1000, 17}, {300, -866, 500}, {359, -17, 1000},
		{360, 0, 1000}, {361, 17, 1000}, {390, 500, 866}, {-1, -17, 1000}, {-90, -1000, 0}, {-91, -1000, -17},
		{-180, 0, -1000}, {-270, 1000, 0}, {-360, 0, 1000}, {-450, -1000, 0},
		{3510, -1000, 0}, {3511, -1000, 17}, {3600, 0, 1000}, {-3600, 0, 1000}, {3599, -17, 1000}, {-3599, 17, 1000},
	}
	for _, c := range cases {
		if s, ok := impl.SineOf(c.d); !ok || s != c.sine {
			t.Errorf("SineOf(%d) = %d, %v", c.d, s, ok)
		}
		if s, ok := impl.CosineOf(c.d); !ok || s != c.cosine {
			t.Errorf("CosineOf(%d) = %d, %v", c.d, s, ok)
		}
	}
}

func TestOppositeAnglesHaveOppositeSines(t *testing.T) {
	for d := 0; d <= impl.MaxDegrees; d++ {
		s, _ := impl.SineOf(d)
		opposite, _ := impl.SineOf(-d)
		if opposite != -s {
			t.Errorf("SineOf(%d) = %d, SineOf(%d) = %d", d, s, -d, opposite)
		}
		c, _ := impl.CosineOf(d)
		if same, _ := impl.CosineOf(-d); same != c {
			t.Errorf("CosineOf(%d) = %d, CosineOf(%d) = %d", d, c, -d, same)
		}
	}
}

func TestAnglesOfOneDirectionHaveOneSine(t *testing.T) {
	for d := -impl.MaxDegrees; d <= impl.MaxDegrees-360; d++ {
		s, _ := impl.SineOf(d)
		c, _ := impl.CosineOf(d)
		if turned, ok := impl.SineOf(d + 360); !ok || turned != s {
			t.Errorf("SineOf(%d) = %d, but %d is %d", d, s, d+360, turned)
		}
		if turned, ok := impl.CosineOf(d + 360); !ok || turned != c {
			t.Errorf("CosineOf(%d) = %d, but %d is %d", d, c, d+360, turned)
		}
		if next, ok := impl.SineOf(d + 90); !ok || next != c {
			t.Errorf("CosineOf(%d) = %d, but SineOf(%d) = %d", d, c, d+90, next)
		}
	}
	for d := 0; d <= 90; d++ {
		over, _ := impl.SineOf(90 + d)
		if under, ok := impl.SineOf(90 - d); !ok || over != under {
			t.Errorf("SineOf(90 + %d) = %d, SineOf(90 - %d) = %d", d, over, d, under)
		}
	}
}

func TestSineAndCosineRefuseOtherAngles(t *testing.T) {
	others := []int{3601, -3601, 3690, -3690, 3960, -3960, 1 << 32, math.MaxInt, math.MaxInt - 89, math.MinInt, math.MinInt + 1}
	for _, d := range others {
		if s, ok := impl.SineOf(d); ok || s != 0 {
			t.Errorf("SineOf(%d) = %d, %v", d, s, ok)
		}
		if c, ok := impl.CosineOf(d); ok || c != 0 {
			t.Errorf("CosineOf(%d) = %d, %v", d, c, ok)
		}
	}
}

func TestRoundedDivAtKnownNumbers(t *testing.T) {
	cases := []struct{ a, b, want int }{
		{0, 1, 0}, {0, 9, 0}, {0, 1000000, 0}, {5, 1, 5}, {-5, 1, -5}, {6, 3, 2}, {-6, 3, -2},
		{1, 2, 1}, {-1, 2, -1}, {3, 2, 2}, {-3, 2, -2}, {5, 2, 3}, {-5, 2, -3}, {7, 2, 4}, {-7, 2, -4},
		{1, 3, 0}, {-1, 3, 0}, {2, 3, 1}, {-2, 3, -1}, {4, 3, 1}, {-4, 3, -1}, {7, 3, 2}, {-7, 3, -2},
		{1, 4, 0}, {2, 4, 1}, {3, 4, 1}, {-1, 4, 0}, {-2, 4, -1}, {-3, 4, -1}, {6, 4, 2}, {-6, 4, -2},
		{499, 1000, 0}, {500, 1000, 1}, {501, 1000, 1}, {-499, 1000, 0}, {-500, 1000, -1}, {-501, 1000, -1},
		{1499, 1000, 1}, {1500, 1000, 2}, {-1499, 1000, -1}, {-1500, 1000, -2},
		{499999, 1000000, 0}, {500000, 1000000, 1}, {-499999, 1000000, 0}, {-500000, 1000000, -1},
		{499999, 999999, 0}, {500000, 999999, 1}, {-499999, 999999, 0}, {-500000, 999999, -1},
		{1000000000, 1, 1000000000}, {-1000000000, 1, -1000000000},
		{1000000000, 1000000, 1000}, {-1000000000, 1000000, -1000}, {999500000, 1000000, 1000}, {999499999, 1000000, 999},
		{1000000000, 3, 333333333}, {-1000000000, 3, -333333333}, {999999999, 2, 500000000}, {-999999999, 2, -500000000},
	}
	for _, c := range cases {
		if q, ok := impl.RoundedDiv(c.a, c.b); !ok || q != c.want {
			t.Errorf("RoundedDiv(%d, %d) = %d, %v, not %d", c.a, c.b, q, ok, c.want)
		}
	}
}

// checkNearest holds a quotient against the rule: it is at most half of b away from a, and
// exactly half of it only if it is farther from 0.
func checkNearest(t *testing.T, a, b, q int) {
	t.Helper()
	left := a - q*b
	if a < 0 {
		left = -left
	}
	if 2*left < -b || 2*left >= b {
		t.Errorf("%d divided by %d is not %d, rounded", a, b, q)
	}
}

func TestRoundedDivIsTheNearest(t *testing.T) {
	for a := -300; a <= 300; a++ {
		for b := 1; b <= 60; b++ {
			q, ok := impl.RoundedDiv(a, b)
			if !ok {
				t.Fatalf("RoundedDiv(%d, %d) fails", a, b)
			}
			checkNearest(t, a, b, q)
		}
	}
	for a := -1000000000; a <= 1000000000; a += 12345678 {
		for b := 1; b <= 1000000; b += 7919 {
			q, ok := impl.RoundedDiv(a, b)
			if !ok {
				t.Fatalf("RoundedDiv(%d, %d) fails", a, b)
			}
			checkNearest(t, a, b, q)
		}
	}
}

func TestRoundedDivRefusesOtherNumbers(t *testing.T) {
	cases := [][2]int{
		{1000000001, 1}, {-1000000001, 1}, {1000000001, 1000000}, {-1000000001, 1000000},
		{5, 0}, {0, 0}, {5, -1}, {-5, -1}, {0, -1000000}, {5, 1000001}, {0, 1000001},
		{math.MinInt, 1}, {math.MaxInt, 1}, {math.MinInt, -1}, {1, math.MinInt}, {1, math.MaxInt},
	}
	for _, c := range cases {
		if q, ok := impl.RoundedDiv(c[0], c[1]); ok || q != 0 {
			t.Errorf("RoundedDiv(%d, %d) = %d, %v", c[0], c[1], q, ok)
		}
	}
}

func TestPartOfAtKnownLengths(t *testing.T) {
	cases := []struct{ length, degrees, along, across int }{
		{100, 30, 87, 50}, {100, 0, 100, 0}, {100, 90, 0, 100}, {100, 180, -100, 0}, {100, 270, 0, -100},
		{-100, 30, -87, -50}, {100, -30, 87, -50}, {-100, -30, -87, 50}, {100, 150, -87, 50}, {100, 210, -87, -50},
		{0, 45, 0, 0}, {0, 3600, 0, 0}, {1, 30, 1, 1}, {-1, 30, -1, -1}, {1, 60, 1, 1}, {1, 29, 1, 0}, {-1, 29, -1, 0},
		{3, 30, 3, 2}, {-3, 30, -3, -2}, {3, 210, -3, -2}, {1, 61, 0, 1},
		{impl.MaxLong, 0, impl.MaxLong, 0}, {-impl.MaxLong, 0, -impl.MaxLong, 0},
		{impl.MaxLong, 45, 70700, 70700}, {-impl.MaxLong, 45, -70700, -70700},
		{impl.MaxLong, -90, 0, -impl.MaxLong}, {-impl.MaxLong, -90, 0, impl.MaxLong},
		{100, 3600, 100, 0}, {100, -3600, 100, 0}, {100, 3570, 87, -50}, {100, -3570, 87, 50},
	}
	for _, c := range cases {
		if along, across, ok := impl.PartOf(c.length, c.degrees); !ok || along != c.along || across != c.across {
			t.Errorf("PartOf(%d, %d) = %d, %d, %v", c.length, c.degrees, along, across, ok)
		}
	}
}

func TestPartOfDiffersByTheRoundingOnly(t *testing.T) {
	lengths := []int{0, 1, -1, 2, 3, -3, 7, 50, -125, 500, 999, 1000, -1001, 4321, 99999, impl.MaxLong, -impl.MaxLong, -99999}
	for _, length := range lengths {
		for d := -impl.MaxDegrees; d <= impl.MaxDegrees; d++ {
			along, across, ok := impl.PartOf(length, d)
			if !ok {
				t.Fatalf("PartOf(%d, %d) fails", length, d)
			}
			checkNearest(t, length*ruledCosine(d), 1000, along)
			checkNearest(t, length*ruledSine(d), 1000, across)
		}
	}
}

func TestPartOfRefusesOtherLengthsAndAngles(t *testing.T) {
	cases := [][2]int{
		{impl.MaxLong + 1, 0}, {-impl.MaxLong - 1, 0}, {impl.MaxLong + 1, 90}, {1, 3601}, {1, -3601}, {0, 3601},
		{impl.MaxLong + 1, 3601}, {math.MaxInt, 1}, {math.MinInt, 1}, {1, math.MaxInt}, {1, math.MinInt}, {math.MinInt, math.MinInt},
	}
	for _, c := range cases {
		if along, across, ok := impl.PartOf(c[0], c[1]); ok || along != 0 || across != 0 {
			t.Errorf("PartOf(%d, %d) = %d, %d, %v", c[0], c[1], along, across, ok)
		}
	}
}

func TestTurnBetweenAtKnownBearings(t *testing.T) {
	cases := []struct{ a, b, want int }{
		{0, 0, 0}, {359, 359, 0}, {0, 1, 1}, {0, 359, 1}, {1, 359, 2}, {350, 10, 20}, {10, 350, 20}, {0, 179, 179},
		{0, 180, 180}, {0, 181, 179}, {180, 359, 179}, {179, 359, 180}, {178, 359, 179}, {90, 270, 180}, {90, 271, 179},
		{89, 270, 179}, {180, 180, 0}, {179, 181, 2},
	}
	for _, c := range cases {
		if n, ok := impl.TurnBetween(c.a, c.b); !ok || n != c.want {
			t.Errorf("TurnBetween(%d, %d) = %d, %v", c.a, c.b, n, ok)
		}
	}
}

func TestTurnBetweenAllBearings(t *testing.T) {
	for a := range 360 {
		for b := range 360 {
			n, ok := impl.TurnBetween(a, b)
			if !ok || n < 0 || n > 180 || (a+n)%360 != b && (b+n)%360 != a {
				t.Errorf("TurnBetween(%d, %d) = %d, %v", a, b, n, ok)
			}
		}
	}
}

func TestBackBearingOfAllBearings(t *testing.T) {
	for _, c := range [][2]int{{0, 180}, {1, 181}, {179, 359}, {180, 0}, {181, 1}, {190, 10}, {359, 179}, {90, 270}, {270, 90}} {
		if b, ok := impl.BackBearing(c[0]); !ok || b != c[1] {
			t.Errorf("BackBearing(%d) = %d, %v", c[0], b, ok)
		}
	}
	for a := range 360 {
		back, ok := impl.BackBearing(a)
		if !ok || !isBearing(back) || back-a != 180 && a-back != 180 {
			t.Errorf("BackBearing(%d) = %d, %v", a, back, ok)
		}
		if again, ok := impl.BackBearing(back); !ok || again != a {
			t.Errorf("BackBearing(%d) = %d, %v, not %d", back, again, ok, a)
		}
	}
}

func TestBearingsAreRefusedOutsideOfTheCircle(t *testing.T) {
	for _, x := range []int{-1, 360, 361, -180, -359, 540, 720, 3600, 3601, math.MaxInt, math.MinInt} {
		if b, ok := impl.BackBearing(x); ok || b != 0 {
			t.Errorf("BackBearing(%d) = %d, %v", x, b, ok)
		}
		for _, y := range []int{0, 180, 359, x} {
			if n, ok := impl.TurnBetween(x, y); ok || n != 0 {
				t.Errorf("TurnBetween(%d, %d) = %d, %v", x, y, n, ok)
			}
			if n, ok := impl.TurnBetween(y, x); ok || n != 0 {
				t.Errorf("TurnBetween(%d, %d) = %d, %v", y, x, n, ok)
			}
		}
	}
}

// checkBearing checks that no other bearing fits better, and no smaller one as well.
func checkBearing(t *testing.T, east, north int) {
	t.Helper()
	told, ok := impl.BearingTo(east, north)
	if !ok || !isBearing(told) {
		t.Errorf("BearingTo(%d, %d) = %d, %v", east, north, told, ok)
		return
	}
	fit := east*ruledSine(told) + north*ruledCosine(told)
	for b := range 360 {
		other := east*ruledSine(b) + north*ruledCosine(b)
		if other > fit || other == fit && b < told {
			t.Errorf("BearingTo(%d, %d) = %d with the fit %d, but %d has %d", east, north, told, fit, b, other)
			return
		}
	}
}

func TestNoBearingFitsBetter(t *testing.T) {
	for east := -30; east <= 30; east++ {
		for north := -30; north <= 30; north++ {
			if east != 0 || north != 0 {
				checkBearing(t, east, north)
			}
		}
	}
	for d := range 360 {
		checkBearing(t, ruledSine(d), ruledCosine(d))
		checkBearing(t, 100*ruledSine(d), 100*ruledCosine(d))
		checkBearing(t, 97*ruledSine(d)+d, 97*ruledCosine(d)-d)
	}
}

func TestBearingToTellsTheSmallestOnTies(t *testing.T) {
	cases := []struct{ east, north, want int }{
		{0, 10, 0}, {0, 1, 0}, {10, 0, 89}, {1, 0, 89}, {0, -10, 179}, {0, -1, 179}, {-10, 0, 269}, {-1, 0, 269},
		{10, 10, 44}, {1, 1, 44}, {10, -10, 134}, {-10, -10, 224}, {-10, 10, 314},
	}
	for _, c := range cases {
		if b, ok := impl.BearingTo(c.east, c.north); !ok || b != c.want {
			t.Errorf("BearingTo(%d, %d) = %d, %v, not %d", c.east, c.north, b, ok, c.want)
		}
		checkBearing(t, c.east, c.north)
	}
}

// TestBearingToTiesOfAllNeighbours makes each bearing and the next one fit equally well: the
// lengths are at right angles to the way from the one's sine and cosine to the other's.
func TestBearingToTiesOfAllNeighbours(t *testing.T) {
	ties := 0
	for d := range 360 {
		east := ruledCosine(d) - ruledCosine(d+1)
		north := ruledSine(d+1) - ruledSine(d)
		if east*ruledSine(d)+north*ruledCosine(d) < 0 {
			t.Fatalf("the lengths for %d lead backwards", d)
		}
		for _, k := range []int{1, 7, 1000} {
			checkBearing(t, k*east, k*north)
		}
		if told, _ := impl.BearingTo(east, north); told == d || d == 359 && told == 0 {
			ties++
		}
	}
	if ties < 100 {
		t.Error("too few ties of neighbours were told:", ties)
	}
}

func TestBearingToAtTheLimits(t *testing.T) {
	edge := []int{-impl.MaxLong, -impl.MaxLong + 1, -1, 0, 1, impl.MaxLong - 1, impl.MaxLong}
	for _, east := range edge {
		for _, north := range edge {
			if east != 0 || north != 0 {
				checkBearing(t, east, north)
			}
		}
	}
	for _, beyond := range []int{impl.MaxLong + 1, -impl.MaxLong - 1, math.MaxInt, math.MinInt} {
		for _, other := range []int{0, 1, impl.MaxLong, beyond} {
			if b, ok := impl.BearingTo(beyond, other); ok || b != 0 {
				t.Errorf("BearingTo(%d, %d) = %d, %v", beyond, other, b, ok)
			}
			if b, ok := impl.BearingTo(other, beyond); ok || b != 0 {
				t.Errorf("BearingTo(%d, %d) = %d, %v", other, beyond, b, ok)
			}
		}
	}
	if b, ok := impl.BearingTo(0, 0); ok || b != 0 {
		t.Error("BearingTo(0, 0)", b, ok)
	}
}

// isSlopeFirst reports whether a comes before b among slopes that fit equally well.
func isSlopeFirst(a, b int) bool {
	if max(a, -a) != max(b, -b) {
		return max(a, -a) < max(b, -b)
	}
	return a > b
}

// checkSlope checks that no other slope fits better, and none that comes first as well.
func checkSlope(t *testing.T, level, up int) {
	t.Helper()
	told, ok := impl.SlopeTo(level, up)
	if !ok || told < -90 || told > 90 {
		t.Errorf("SlopeTo(%d, %d) = %d, %v", level, up, told, ok)
		return
	}
	fit := level*ruledCosine(told) + up*ruledSine(told)
	for s := -90; s <= 90; s++ {
		other := level*ruledCosine(s) + up*ruledSine(s)
		if other > fit || other == fit && isSlopeFirst(s, told) {
			t.Errorf("SlopeTo(%d, %d) = %d with the fit %d, but %d has %d", level, up, told, fit, s, other)
			return
		}
	}
}

func TestNoSlopeFitsBetter(t *testing.T) {
	for level := 0; level <= 40; level++ {
		for up := -40; up <= 40; up++ {
			if level != 0 || up != 0 {
				checkSlope(t, level, up)
			}
		}
	}
	for s := -90; s <= 90; s++ {
		checkSlope(t, ruledCosine(s), ruledSine(s))
		checkSlope(t, 100*ruledCosine(s), 100*ruledSine(s))
		checkSlope(t, 97*ruledCosine(s)+90, 97*ruledSine(s)-s)
	}
}

// TestSlopeToTellsTheFlattestOnTies has no tie of a slope and its opposite without a flatter
// one: these two fit equally well only if up is 0, and then 0 fits best.
func TestSlopeToTellsTheFlattestOnTies(t *testing.T) {
	cases := []struct{ level, up, want int }{
		{10, 0, 0}, {1, 0, 0}, {impl.MaxLong, 0, 0}, {0, 10, 89}, {0, 1, 89}, {0, -10, -89}, {0, -1, -89},
		{10, 10, 44}, {10, -10, -44}, {1, 1, 44}, {1, -1, -44},
	}
	for _, c := range cases {
		if s, ok := impl.SlopeTo(c.level, c.up); !ok || s != c.want {
			t.Errorf("SlopeTo(%d, %d) = %d, %v, not %d", c.level, c.up, s, ok, c.want)
		}
		checkSlope(t, c.level, c.up)
	}
	for s := range 90 {
		level, up := ruledSine(s+1)-ruledSine(s), ruledCosine(s)-ruledCosine(s+1)
		for _, k := range []int{1, 7, 1000} {
			checkSlope(t, k*level, k*up)
			checkSlope(t, k*level, -k*up)
		}
	}
}

func TestSlopeToAtTheLimits(t *testing.T) {
	for _, level := range []int{0, 1, impl.MaxLong - 1, impl.MaxLong} {
		for _, up := range []int{-impl.MaxLong, -impl.MaxLong + 1, -1, 1, impl.MaxLong - 1, impl.MaxLong} {
			checkSlope(t, level, up)
		}
	}
	refused := [][2]int{
		{0, 0}, {-1, 0}, {-1, 5}, {-1, -5}, {-impl.MaxLong, 1}, {impl.MaxLong + 1, 0}, {impl.MaxLong + 1, 1},
		{-impl.MaxLong - 1, 1}, {0, impl.MaxLong + 1}, {0, -impl.MaxLong - 1}, {1, impl.MaxLong + 1}, {1, -impl.MaxLong - 1},
		{math.MaxInt, 1}, {math.MinInt, 1}, {1, math.MaxInt}, {1, math.MinInt}, {math.MinInt, math.MinInt},
	}
	for _, c := range refused {
		if s, ok := impl.SlopeTo(c[0], c[1]); ok || s != 0 {
			t.Errorf("SlopeTo(%d, %d) = %d, %v", c[0], c[1], s, ok)
		}
	}
}

// checkLength checks that the square of the told length is within the sum, and that of the next
// number is not.
func checkLength(t *testing.T, east, north, up int) {
	t.Helper()
	sum := east*east + north*north + up*up
	n, ok := impl.LengthOf(east, north, up)
	if !ok || n < 0 || n*n > sum || (n+1)*(n+1) <= sum {
		t.Errorf("LengthOf(%d, %d, %d) = %d, %v", east, north, up, n, ok)
	}
}

func TestLengthOfAtKnownLengths(t *testing.T) {
	const most = impl.MaxLong
	cases := []struct{ east, north, up, want int }{
		{0, 0, 0, 0}, {1, 0, 0, 1}, {0, -1, 0, 1}, {0, 0, 1, 1}, {1, 1, 0, 1}, {1, 1, 1, 1}, {2, 0, 0, 2}, {2, 1, 1, 2},
		{2, 2, 0, 2}, {2, 2, 1, 3}, {3, 4, 0, 5}, {3, 4, 12, 13}, {-3, 4, -12, 13}, {2, 3, 6, 7}, {2, 3, 5, 6},
		{most, 0, 0, most}, {0, -most, 0, most}, {0, 0, most, most}, {most, 1, 0, most}, {most - 1, 0, 0, most - 1},
		{most / 2, most, most, 150000}, {most / 2, most, most - 1, 149999}, {most / 2, most, -most, 150000},
		{60000, 80000, 0, most}, {60000, 79999, 0, most - 1},
		{most, most, 0, 141421}, {most, most, most, 173205}, {-most, -most, -most, 173205},
	}
	for _, c := range cases {
		if n, ok := impl.LengthOf(c.east, c.north, c.up); !ok || n != c.want {
			t.Errorf("LengthOf(%d, %d, %d) = %d, %v, not %d", c.east, c.north, c.up, n, ok, c.want)
		}
		checkLength(t, c.east, c.north, c.up)
	}
}

// TestLengthOfAroundSquares uses that k to the fourth plus twice the square of k is one less
// than the square of k*k + 1, and that 1, 2 and 2 have the length 3.
func TestLengthOfAroundSquares(t *testing.T) {
	for k := 1; k*k <= impl.MaxLong; k++ {
		if n, ok := impl.LengthOf(k*k, k, -k); !ok || n != k*k {
			t.Errorf("just below the square of %d: %d, %v", k*k+1, n, ok)
		}
	}
	for k := 1; 2*k <= impl.MaxLong; k += 7 {
		if n, ok := impl.LengthOf(2*k, -k, 2*k); !ok || n != 3*k {
			t.Errorf("the square of %d: %d, %v", 3*k, n, ok)
		}
	}
}

func TestLengthOfIsTheGreatest(t *testing.T) {
	for east := -12; east <= 12; east++ {
		for north := -12; north <= 12; north++ {
			for up := -12; up <= 12; up++ {
				checkLength(t, east, north, up)
			}
		}
	}
	for east := -impl.MaxLong; east <= impl.MaxLong; east += 9973 {
		for north := -impl.MaxLong; north <= impl.MaxLong; north += 8191 {
			for up := -impl.MaxLong; up <= impl.MaxLong; up += 7919 {
				checkLength(t, east, north, up)
			}
		}
	}
}

func TestLengthOfRefusesOtherLengths(t *testing.T) {
	for _, beyond := range []int{impl.MaxLong + 1, -impl.MaxLong - 1, 1 << 32, math.MaxInt, math.MinInt} {
		for _, c := range [][3]int{{beyond, 0, 0}, {0, beyond, 0}, {0, 0, beyond}, {beyond, beyond, beyond}} {
			if n, ok := impl.LengthOf(c[0], c[1], c[2]); ok || n != 0 {
				t.Errorf("LengthOf(%d, %d, %d) = %d, %v", c[0], c[1], c[2], n, ok)
			}
		}
	}
}

// checkOutcome checks that a call succeeds exactly for valid arguments, and tells 0 otherwise.
func checkOutcome(t *testing.T, call string, args []int, result int, ok, valid bool) {
	t.Helper()
	if ok != valid || !ok && result != 0 {
		t.Errorf("%s of %d = %d, %v", call, args, result, ok)
	}
}

func TestAngleFunctionsReturnForAllArguments(t *testing.T) {
	for _, a := range oddNumbers {
		n, ok := impl.SineOf(a)
		checkOutcome(t, "SineOf", []int{a}, n, ok, isAngle(a))
		n, ok = impl.CosineOf(a)
		checkOutcome(t, "CosineOf", []int{a}, n, ok, isAngle(a))
		n, ok = impl.BackBearing(a)
		checkOutcome(t, "BackBearing", []int{a}, n, ok, isBearing(a))
		for _, b := range oddNumbers {
			both := []int{a, b}
			some := isLength(a) && isLength(b) && (a != 0 || b != 0)
			n, ok = impl.RoundedDiv(a, b)
			checkOutcome(t, "RoundedDiv", both, n, ok, a >= -1000000000 && a <= 1000000000 && b >= 1 && b <= 1000000)
			along, across, ok := impl.PartOf(a, b)
			checkOutcome(t, "PartOf", both, along, ok, isLength(a) && isAngle(b))
			checkOutcome(t, "PartOf", both, across, ok, isLength(a) && isAngle(b))
			n, ok = impl.TurnBetween(a, b)
			checkOutcome(t, "TurnBetween", both, n, ok, isBearing(a) && isBearing(b))
			n, ok = impl.BearingTo(a, b)
			checkOutcome(t, "BearingTo", both, n, ok, some)
			n, ok = impl.SlopeTo(a, b)
			checkOutcome(t, "SlopeTo", both, n, ok, some && a >= 0)
			for _, c := range oddNumbers {
				n, ok = impl.LengthOf(a, b, c)
				checkOutcome(t, "LengthOf", []int{a, b, c}, n, ok, isLength(a) && isLength(b) && isLength(c))
			}
		}
	}
}
