package tests

import (
	"math"
	"slices"
	"testing"

	"loop.example/g00933/impl"
)

func tapeWith(zero, scale int) impl.Tool {
	return impl.Tool{Id: 1, Kind: impl.KindTape, Zero: zero, Scale: scale}
}

func compassWith(zero int) impl.Tool {
	return impl.Tool{Id: 2, Kind: impl.KindCompass, Zero: zero, Scale: 1000}
}

func clinoWith(zero int) impl.Tool {
	return impl.Tool{Id: 3, Kind: impl.KindClino, Zero: zero, Scale: 1000}
}

func isKind(n int) bool { return n == 0 || n == 1 || n == 2 }

// ruledTool follows the document's words on a valid Tool.
func ruledTool(x impl.Tool) bool {
	return x.Id >= 1 && x.Id <= 99 && isKind(x.Kind) && x.Zero >= -50 && x.Zero <= 50 &&
		x.Scale >= 900 && x.Scale <= 1100 && (x.Kind == 0 || x.Scale == 1000)
}

// readingsOf are the smallest and the greatest reading of each Kind.
var readingsOf = [3][2]int{{0, 1000}, {0, 359}, {-90, 90}}

func isReading(kind, n int) bool { return n >= readingsOf[kind][0] && n <= readingsOf[kind][1] }

// ruledCorrection uses floats: a thousandth is far above their error, and Round takes the one
// of two near numbers that is farther from 0.
func ruledCorrection(x impl.Tool, reading int) (int, bool) {
	if !ruledTool(x) || !isReading(x.Kind, reading) {
		return 0, false
	}
	n := int(math.Round(float64((reading-x.Zero)*x.Scale) / 1000))
	for x.Kind == impl.KindCompass && n < 0 {
		n += 360
	}
	for x.Kind == impl.KindCompass && n > 359 {
		n -= 360
	}
	if !isReading(x.Kind, n) {
		return 0, false
	}
	return n, true
}

func ruledError(x impl.Tool, c impl.Check) (int, bool) {
	n, ok := ruledCorrection(x, c.Read)
	if !ok || !isReading(x.Kind, c.True) {
		return 0, false
	}
	n -= c.True
	for x.Kind == impl.KindCompass && n < -179 {
		n += 360
	}
	for x.Kind == impl.KindCompass && n > 180 {
		n -= 360
	}
	return n, true
}

func ruledWorst(x impl.Tool, list []impl.Check) (int, int, bool) {
	if len(list) < 1 || len(list) > 10 {
		return 0, 0, false
	}
	distances := []int{}
	for _, c := range list {
		n, ok := ruledError(x, c)
		if !ok {
			return 0, 0, false
		}
		distances = append(distances, max(n, -n))
	}
	most := slices.Max(distances)
	return slices.Index(distances, most), most, true
}

// checkFit checks a told Tool against all those that could have been told, in ascending order:
// none may be better, and none before it as good.
func checkFit(t *testing.T, call string, told impl.Tool, ok bool, others []impl.Tool, list []impl.Check) {
	t.Helper()
	want, least, found := impl.Tool{}, 0, false
	for _, other := range others {
		if _, n, counts := ruledWorst(other, list); counts && (!found || n < least) {
			want, least, found = other, n, true
		}
	}
	if ok != found || told != want {
		t.Errorf("%s at %v = %v, %v, not %v, %v", call, list, told, ok, want, found)
	}
}

func withAllZeros(x impl.Tool) []impl.Tool {
	list := []impl.Tool{}
	for zero := -50; ruledTool(x) && zero <= 50; zero++ {
		list = append(list, impl.Tool{Id: x.Id, Kind: x.Kind, Zero: zero, Scale: x.Scale})
	}
	return list
}

func withAllScales(x impl.Tool) []impl.Tool {
	list := []impl.Tool{}
	for scale := 900; ruledTool(x) && x.Kind == impl.KindTape && scale <= 1100; scale++ {
		list = append(list, impl.Tool{Id: x.Id, Kind: x.Kind, Zero: x.Zero, Scale: scale})
	}
	return list
}

func checkFitZero(t *testing.T, x impl.Tool, list []impl.Check) {
	t.Helper()
	told, ok := impl.FitZero(x, list)
	checkFit(t, "FitZero", told, ok, withAllZeros(x), list)
	checkNotWorse(t, x, told, ok, list)
}

func checkFitScale(t *testing.T, x impl.Tool, list []impl.Check) {
	t.Helper()
	told, ok := impl.FitScale(x, list)
	checkFit(t, "FitScale", told, ok, withAllScales(x), list)
	if x.Kind == impl.KindTape {
		checkNotWorse(t, x, told, ok, list)
	}
}

// checkNotWorse checks, by the program's own WorstCheck, that a Tool that is told is never worse
// than the one at hand, and that one is told if the one at hand has no failing check.
func checkNotWorse(t *testing.T, atHand, told impl.Tool, ok bool, list []impl.Check) {
	t.Helper()
	_, before, counts := impl.WorstCheck(atHand, list)
	if !counts {
		return
	}
	if _, after, still := impl.WorstCheck(told, list); !ok || !still || after > before {
		t.Errorf("%v at %v has the distance %d, but %v has %d, %v", atHand, list, before, told, after, ok)
	}
}

// numbers tells the same numbers in each run, in 0..below-1.
type numbers struct{ state uint32 }

func (n *numbers) next(below int) int {
	n.state = n.state*1664525 + 1013904223
	return int(n.state>>8) % below
}

func (n *numbers) within(low, high int) int { return low + n.next(high-low+1) }

func (n *numbers) tool() impl.Tool {
	x := impl.Tool{Id: n.within(1, 99), Kind: n.next(3), Zero: n.within(-50, 50), Scale: 1000}
	if x.Kind == impl.KindTape {
		x.Scale = n.within(900, 1100)
	}
	return x
}

// checks tells checks whose errors lie near some Zero, as those of an instrument do.
func (n *numbers) checks(kind, count, spread int) []impl.Check {
	list := []impl.Check{}
	low, high := readingsOf[kind][0], readingsOf[kind][1]
	shift := n.within(-60, 60)
	for range count {
		read := n.within(low, high)
		really := read + shift + n.within(-spread, spread)
		if kind == impl.KindCompass {
			really = (really + 720) % 360
		}
		list = append(list, impl.Check{Read: read, True: min(max(really, low), high)})
	}
	return list
}

func TestInstrumentLimits(t *testing.T) {
	if impl.KindTape != 0 || impl.KindCompass != 1 || impl.KindClino != 2 || impl.MaxTools != 8 {
		t.Error("constants", impl.KindTape, impl.KindCompass, impl.KindClino, impl.MaxTools)
	}
}

func TestIsToolAtTheLimits(t *testing.T) {
	cases := []struct {
		x    impl.Tool
		want bool
	}{
		{impl.Tool{}, false}, {tapeWith(0, 1000), true}, {compassWith(0), true}, {clinoWith(0), true},
		{impl.Tool{Id: 0, Scale: 1000}, false}, {impl.Tool{Id: 1, Scale: 1000}, true}, {impl.Tool{Id: -1, Scale: 1000}, false},
		{impl.Tool{Id: 99, Scale: 1000}, true}, {impl.Tool{Id: 100, Scale: 1000}, false},
		{impl.Tool{Id: 5, Kind: -1, Scale: 1000}, false}, {impl.Tool{Id: 5, Kind: 3, Scale: 1000}, false},
		{tapeWith(-50, 1000), true}, {tapeWith(-51, 1000), false}, {tapeWith(50, 1000), true}, {tapeWith(51, 1000), false},
		{compassWith(-50), true}, {compassWith(-51), false}, {compassWith(50), true}, {compassWith(51), false},
		{clinoWith(-50), true}, {clinoWith(-51), false}, {clinoWith(50), true}, {clinoWith(51), false},
		{tapeWith(0, 900), true}, {tapeWith(0, 899), false}, {tapeWith(0, 1100), true}, {tapeWith(0, 1101), false},
		{tapeWith(0, 999), true}, {tapeWith(0, 1001), true}, {tapeWith(0, 0), false}, {tapeWith(0, -1000), false},
	}
	for _, c := range cases {
		if impl.IsTool(c.x) != c.want {
			t.Errorf("IsTool(%v) is not %v", c.x, c.want)
		}
	}
	for _, kind := range []int{impl.KindCompass, impl.KindClino} {
		for _, scale := range []int{0, 899, 900, 999, 1000, 1001, 1100, 1101, -1000} {
			if impl.IsTool(impl.Tool{Id: 1, Kind: kind, Scale: scale}) != (scale == 1000) {
				t.Errorf("IsTool of the kind %d with the scale %d", kind, scale)
			}
		}
	}
}

// toolsWithIds are tapes, compasses and clinometers in turn.
func toolsWithIds(ids ...int) []impl.Tool {
	list := []impl.Tool{}
	for i, id := range ids {
		list = append(list, impl.Tool{Id: id, Kind: i % 3, Zero: i, Scale: 1000})
	}
	return list
}

func TestAreToolsAtTheLimits(t *testing.T) {
	cases := []struct {
		ids  []int
		want bool
	}{
		{nil, true}, {[]int{1}, true}, {[]int{99}, true}, {[]int{0}, false}, {[]int{100}, false},
		{[]int{1, 2}, true}, {[]int{1, 99}, true}, {[]int{2, 1}, false}, {[]int{7, 7}, false},
		{[]int{1, 2, 2, 3}, false}, {[]int{1, 3, 2, 4}, false}, {[]int{1, 2, 3, 1}, false}, {[]int{5, 6, 8, 7}, false},
		{[]int{1, 2, 3, 4, 5, 6, 7}, true}, {[]int{1, 2, 3, 4, 5, 6, 7, 8}, true}, {[]int{1, 2, 3, 4, 5, 6, 7, 8, 9}, false},
		{[]int{92, 93, 94, 95, 96, 97, 98, 99}, true}, {[]int{93, 94, 95, 96, 97, 98, 99, 100}, false},
	}
	for _, c := range cases {
		if impl.AreTools(toolsWithIds(c.ids...)) != c.want {
			t.Errorf("AreTools with the ids %v is not %v", c.ids, c.want)
		}
	}
	if !impl.AreTools(nil) || !impl.AreTools([]impl.Tool{}) {
		t.Error("no tools are tools")
	}
}

func TestAreToolsRefusesOneInvalidTool(t *testing.T) {
	wrong := []func(x *impl.Tool){
		func(x *impl.Tool) { x.Kind = 3 }, func(x *impl.Tool) { x.Kind = -1 }, func(x *impl.Tool) { x.Zero = 51 },
		func(x *impl.Tool) { x.Zero = -51 }, func(x *impl.Tool) { x.Scale = 1101 }, func(x *impl.Tool) { x.Scale = 899 },
		func(x *impl.Tool) { *x = impl.Tool{} },
	}
	for i := range impl.MaxTools {
		for j, spoil := range wrong {
			list := toolsWithIds(11, 22, 33, 44, 55, 66, 77, 88)
			if !impl.AreTools(list) {
				t.Fatal("the list is valid before it is spoilt")
			}
			spoil(&list[i])
			if impl.AreTools(list) {
				t.Errorf("AreTools with the invalid tool %d of the sort %d", i, j)
			}
		}
	}
}

func TestCorrectReadingAtKnownReadings(t *testing.T) {
	cases := []struct {
		x             impl.Tool
		reading, want int
	}{
		{tapeWith(2, 1010), 102, 101}, {tapeWith(0, 1000), 0, 0}, {tapeWith(0, 1000), 1000, 1000}, {tapeWith(5, 1000), 5, 0},
		{tapeWith(50, 1000), 50, 0}, {tapeWith(-50, 1000), 0, 50}, {tapeWith(-50, 1000), 950, 1000},
		{tapeWith(50, 1000), 1000, 950}, {tapeWith(50, 1050), 1000, 998}, {tapeWith(0, 900), 1000, 900},
		{tapeWith(0, 1100), 909, 1000}, {tapeWith(50, 1100), 959, 1000}, {tapeWith(-50, 900), 1000, 945},
		// A half goes up, and what is less than a half goes down.
		{tapeWith(0, 1005), 100, 101}, {tapeWith(0, 1004), 100, 100}, {tapeWith(0, 995), 100, 100}, {tapeWith(0, 994), 100, 99},
		{tapeWith(0, 900), 5, 5}, {tapeWith(0, 900), 15, 14}, {tapeWith(0, 1100), 5, 6}, {tapeWith(0, 1100), 4, 4},
		{tapeWith(1, 1100), 6, 6}, {tapeWith(-1, 900), 4, 5}, {tapeWith(0, 1050), 10, 11}, {tapeWith(0, 950), 10, 10},
		{compassWith(0), 0, 0}, {compassWith(0), 359, 359}, {compassWith(3), 3, 0}, {compassWith(3), 4, 1},
		{clinoWith(0), -90, -90}, {clinoWith(0), 0, 0}, {clinoWith(0), 90, 90}, {clinoWith(5), 3, -2}, {clinoWith(-5), 3, 8},
		{clinoWith(50), -40, -90}, {clinoWith(-50), 40, 90}, {clinoWith(50), 90, 40}, {clinoWith(-50), -90, -40},
	}
	for _, c := range cases {
		if n, ok := impl.CorrectReading(c.x, c.reading); !ok || n != c.want {
			t.Errorf("CorrectReading(%v, %d) = %d, %v, not %d", c.x, c.reading, n, ok, c.want)
		}
	}
}

func TestCorrectReadingPassesNorth(t *testing.T) {
	cases := []struct{ zero, reading, want int }{
		{3, 1, 358}, {3, 2, 359}, {1, 0, 359}, {50, 0, 310}, {50, 49, 359}, {50, 50, 0}, {50, 359, 309},
		{-3, 356, 359}, {-3, 357, 0}, {-3, 358, 1}, {-1, 359, 0}, {-50, 359, 49}, {-50, 309, 359}, {-50, 310, 0}, {-50, 0, 50},
	}
	for _, c := range cases {
		if n, ok := impl.CorrectReading(compassWith(c.zero), c.reading); !ok || n != c.want {
			t.Errorf("a compass with the zero %d at %d: %d, %v, not %d", c.zero, c.reading, n, ok, c.want)
		}
	}
}

func TestCorrectReadingRefuses(t *testing.T) {
	cases := []struct {
		x       impl.Tool
		reading int
	}{
		// Readings beyond the bounds, though their correction is within them.
		{tapeWith(-5, 1000), -1}, {tapeWith(5, 1000), 1001}, {tapeWith(0, 900), 1001}, {tapeWith(0, 1000), -1}, {tapeWith(0, 1000), 1001},
		{compassWith(0), -1}, {compassWith(0), 360}, {compassWith(-5), -1}, {compassWith(5), 360}, {compassWith(5), 720},
		{clinoWith(0), -91}, {clinoWith(0), 91}, {clinoWith(-5), -91}, {clinoWith(5), 91},
		// Corrections below the bounds.
		{tapeWith(1, 1000), 0}, {tapeWith(1, 900), 0}, {tapeWith(2, 1010), 1}, {tapeWith(50, 1100), 0}, {tapeWith(50, 900), 49},
		{clinoWith(1), -90}, {clinoWith(50), -90}, {clinoWith(50), -41},
		// Corrections above the bounds, the last two tapes by less than 1 before the rounding.
		{tapeWith(-1, 1000), 1000}, {tapeWith(0, 1100), 1000}, {tapeWith(0, 1100), 910}, {tapeWith(-50, 1000), 951},
		{tapeWith(0, 1005), 1000}, {tapeWith(0, 1001), 1000}, {tapeWith(-50, 953), 1000}, {tapeWith(13, 1015), 999},
		{clinoWith(-1), 90}, {clinoWith(-50), 90}, {clinoWith(-50), 41},
		// Invalid Tools.
		{impl.Tool{}, 0}, {impl.Tool{Id: 100, Scale: 1000}, 5}, {tapeWith(51, 1000), 60}, {tapeWith(0, 899), 5},
		{impl.Tool{Id: 1, Kind: 3, Scale: 1000}, 5}, {impl.Tool{Id: 1, Kind: -1, Scale: 1000}, 5},
		{impl.Tool{Id: 1, Kind: impl.KindCompass, Scale: 1010}, 5}, {impl.Tool{Id: 1, Kind: impl.KindClino, Scale: 990}, 5},
		{compassWith(51), 60}, {clinoWith(-51), 5},
	}
	for _, c := range cases {
		if n, ok := impl.CorrectReading(c.x, c.reading); ok || n != 0 {
			t.Errorf("CorrectReading(%v, %d) = %d, %v", c.x, c.reading, n, ok)
		}
	}
}

// TestCorrectReadingRoundsAtTheUpperBound has corrections just above 1000, of which the rounded
// ones count.
func TestCorrectReadingRoundsAtTheUpperBound(t *testing.T) {
	cases := []struct {
		zero, scale, thousandths int
		want                     bool
	}{
		{50, 1053, 1000350, true}, {25, 1026, 1000350, true}, {-35, 966, 999810, true}, {13, 1013, 999831, true},
		{45, 1048, 1000840, false}, {-35, 967, 1000845, false}, {-15, 986, 1000790, false}, {-50, 953, 1000650, false},
	}
	for _, c := range cases {
		if (1000-c.zero)*c.scale != c.thousandths {
			t.Errorf("the case %v is miscalculated", c)
		}
		if n, ok := impl.CorrectReading(tapeWith(c.zero, c.scale), 1000); ok != c.want || ok && n != 1000 || !ok && n != 0 {
			t.Errorf("a tape with the zero %d and the scale %d: %d, %v", c.zero, c.scale, n, ok)
		}
	}
}

func TestCorrectReadingOfAllReadings(t *testing.T) {
	for zero := -50; zero <= 50; zero++ {
		tools := []impl.Tool{compassWith(zero), clinoWith(zero)}
		for _, scale := range []int{900, 901, 925, 950, 953, 966, 967, 995, 999, 1000, 1001, 1005, 1010, 1025, 1050, 1099, 1100} {
			tools = append(tools, tapeWith(zero, scale))
		}
		for _, x := range tools {
			for reading := -100; reading <= 1010; reading++ {
				want, valid := ruledCorrection(x, reading)
				if n, ok := impl.CorrectReading(x, reading); ok != valid || n != want {
					t.Fatalf("CorrectReading(%v, %d) = %d, %v, not %d, %v", x, reading, n, ok, want, valid)
				}
			}
		}
	}
}

func TestCheckErrorAtKnownChecks(t *testing.T) {
	cases := []struct {
		x                impl.Tool
		read, really, to int
	}{
		{tapeWith(2, 1010), 50, 50, -2}, {tapeWith(2, 1010), 102, 100, 1}, {tapeWith(0, 1000), 0, 1000, -1000},
		{tapeWith(0, 1000), 1000, 0, 1000}, {tapeWith(0, 1000), 1000, 1000, 0}, {tapeWith(0, 1000), 300, 100, 200},
		{tapeWith(0, 1005), 100, 100, 1}, {tapeWith(-50, 1000), 0, 0, 50},
		{clinoWith(0), 90, -90, 180}, {clinoWith(0), -90, 90, -180}, {clinoWith(2), 5, 5, -2}, {clinoWith(-2), -5, -5, 2},
		{clinoWith(0), 12, 7, 5}, {clinoWith(0), -7, 12, -19},
		// Around north.
		{compassWith(3), 1, 0, -2}, {compassWith(0), 359, 0, -1}, {compassWith(0), 0, 359, 1}, {compassWith(0), 350, 10, -20},
		{compassWith(0), 10, 350, 20}, {compassWith(10), 5, 355, 0}, {compassWith(-10), 355, 5, 0}, {compassWith(10), 5, 0, -5},
		{compassWith(-10), 355, 0, 5}, {compassWith(0), 0, 0, 0}, {compassWith(50), 0, 359, -49}, {compassWith(-50), 359, 0, 49},
		// Directions that are just opposite, and those beside them.
		{compassWith(0), 180, 0, 180}, {compassWith(0), 0, 180, 180}, {compassWith(0), 90, 270, 180}, {compassWith(0), 270, 90, 180},
		{compassWith(0), 359, 179, 180}, {compassWith(0), 179, 359, 180}, {compassWith(0), 181, 0, -179},
		{compassWith(0), 0, 181, 179}, {compassWith(0), 179, 0, 179}, {compassWith(0), 0, 179, -179},
		{compassWith(1), 0, 179, 180}, {compassWith(-1), 359, 180, 180}, {compassWith(1), 0, 180, 179}, {compassWith(-1), 359, 179, -179},
	}
	for _, c := range cases {
		if n, ok := impl.CheckError(c.x, impl.Check{Read: c.read, True: c.really}); !ok || n != c.to {
			t.Errorf("CheckError(%v, %d, %d) = %d, %v, not %d", c.x, c.read, c.really, n, ok, c.to)
		}
	}
}

func TestCheckErrorRefuses(t *testing.T) {
	cases := []struct {
		x            impl.Tool
		read, really int
	}{
		// True is out of bounds.
		{tapeWith(0, 1000), 5, -1}, {tapeWith(0, 1000), 5, 1001}, {compassWith(0), 5, -1}, {compassWith(0), 5, 360},
		{clinoWith(0), 5, -91}, {clinoWith(0), 5, 91}, {clinoWith(0), 5, math.MinInt}, {compassWith(0), 5, math.MaxInt},
		// Read is out of bounds.
		{tapeWith(0, 1000), -1, 5}, {tapeWith(0, 1000), 1001, 5}, {compassWith(0), -1, 5}, {compassWith(0), 360, 5},
		{clinoWith(0), -91, 5}, {clinoWith(0), 91, 5},
		// The correction of Read is out of bounds.
		{tapeWith(1, 1000), 0, 0}, {tapeWith(-1, 1000), 1000, 1000}, {tapeWith(0, 1100), 950, 1000}, {clinoWith(1), -90, -90},
		{clinoWith(-1), 90, 90},
		// The Tool is invalid.
		{tapeWith(51, 1000), 100, 100}, {tapeWith(0, 1101), 100, 100}, {compassWith(-51), 5, 5}, {clinoWith(51), 60, 5},
		{impl.Tool{Id: 0, Scale: 1000}, 5, 5}, {impl.Tool{Id: 1, Kind: 3, Scale: 1000}, 5, 5},
	}
	for _, c := range cases {
		if n, ok := impl.CheckError(c.x, impl.Check{Read: c.read, True: c.really}); ok || n != 0 {
			t.Errorf("CheckError(%v, %d, %d) = %d, %v", c.x, c.read, c.really, n, ok)
		}
	}
}

func TestCheckErrorOfAllDirections(t *testing.T) {
	for _, zero := range []int{-50, -49, -1, 0, 1, 7, 50} {
		x := compassWith(zero)
		for read := range 360 {
			for really := range 360 {
				n, ok := impl.CheckError(x, impl.Check{Read: read, True: really})
				if !ok || n < -179 || n > 180 || (read-zero-really-n)%360 != 0 {
					t.Fatalf("CheckError(%v, %d, %d) = %d, %v", x, read, really, n, ok)
				}
			}
		}
	}
	for zero := -50; zero <= 50; zero++ {
		for read := -91; read <= 91; read++ {
			for really := -91; really <= 91; really += 7 {
				want, valid := ruledError(clinoWith(zero), impl.Check{Read: read, True: really})
				n, ok := impl.CheckError(clinoWith(zero), impl.Check{Read: read, True: really})
				if ok != valid || n != want {
					t.Fatalf("CheckError(%v, %d, %d) = %d, %v", clinoWith(zero), read, really, n, ok)
				}
			}
		}
	}
}

// checksWithErrors are checks of a tape without a correction that have these errors.
func checksWithErrors(errors ...int) []impl.Check {
	list := []impl.Check{}
	for i, n := range errors {
		list = append(list, impl.Check{Read: 500 + 10*i + n, True: 500 + 10*i})
	}
	return list
}

func TestWorstCheckTellsTheFirstOnTies(t *testing.T) {
	cases := []struct {
		errors          []int
		index, farthest int
	}{
		{[]int{0}, 0, 0}, {[]int{7}, 0, 7}, {[]int{-7}, 0, 7}, {[]int{0, 0}, 0, 0}, {[]int{0, 1}, 1, 1}, {[]int{1, 0}, 0, 1},
		{[]int{3, 3}, 0, 3}, {[]int{3, -3}, 0, 3}, {[]int{-3, 3}, 0, 3}, {[]int{1, -3, 3, 2}, 1, 3}, {[]int{1, 3, -3, 2}, 1, 3},
		{[]int{0, 0, 2, -2, 2}, 2, 2}, {[]int{1, 2, 3, 4}, 3, 4}, {[]int{-1, -2, -3, 2}, 2, 3}, {[]int{5, -6, 5}, 1, 6},
		{[]int{1, 1, 1, 1, 1, 1, 1, 1, 1, 2}, 9, 2}, {[]int{-2, 1, 1, 1, 1, 1, 1, 1, 1, 2}, 0, 2},
	}
	for _, c := range cases {
		i, n, ok := impl.WorstCheck(tapeWith(0, 1000), checksWithErrors(c.errors...))
		if !ok || i != c.index || n != c.farthest {
			t.Errorf("WorstCheck at the errors %v = %d, %d, %v", c.errors, i, n, ok)
		}
	}
}

func TestWorstCheckGoesAroundNorth(t *testing.T) {
	list := []impl.Check{{Read: 10, True: 7}, {Read: 1, True: 357}, {Read: 358, True: 2}}
	if i, n, ok := impl.WorstCheck(compassWith(0), list); !ok || i != 1 || n != 4 {
		t.Error("a compass:", i, n, ok)
	}
	list = append(list, impl.Check{Read: 200, True: 20}, impl.Check{Read: 20, True: 200})
	if i, n, ok := impl.WorstCheck(compassWith(0), list); !ok || i != 3 || n != 180 {
		t.Error("just opposite:", i, n, ok)
	}
	if i, n, ok := impl.WorstCheck(compassWith(1), list); !ok || i != 3 || n != 179 {
		t.Error("nearly opposite:", i, n, ok)
	}
	if i, n, ok := impl.WorstCheck(clinoWith(0), []impl.Check{{Read: -5, True: 5}, {Read: 90, True: -90}}); !ok || i != 1 || n != 180 {
		t.Error("a clinometer:", i, n, ok)
	}
}

func TestWorstCheckCountsTheChecks(t *testing.T) {
	for _, x := range []impl.Tool{tapeWith(0, 1000), compassWith(0), clinoWith(0)} {
		for count := range 14 {
			list := []impl.Check{}
			for i := range count {
				list = append(list, impl.Check{Read: 2 * i, True: i})
			}
			i, n, ok := impl.WorstCheck(x, list)
			if valid := count >= 1 && count <= 10; ok != valid || ok && (i != count-1 || n != count-1) || !ok && (i != 0 || n != 0) {
				t.Errorf("WorstCheck(%v) of %d checks = %d, %d, %v", x, count, i, n, ok)
			}
		}
		if i, n, ok := impl.WorstCheck(x, nil); ok || i != 0 || n != 0 {
			t.Errorf("WorstCheck(%v, nil) = %d, %d, %v", x, i, n, ok)
		}
	}
}

func TestWorstCheckRefusesOneFailingCheck(t *testing.T) {
	cases := []struct {
		x       impl.Tool
		failing impl.Check
	}{
		{tapeWith(3, 1000), impl.Check{Read: 2, True: 0}}, {tapeWith(-3, 1000), impl.Check{Read: 998, True: 1000}},
		{tapeWith(0, 1000), impl.Check{Read: 20, True: 1001}}, {tapeWith(0, 1000), impl.Check{Read: -1, True: 5}},
		{compassWith(0), impl.Check{Read: 360, True: 0}}, {compassWith(0), impl.Check{Read: 0, True: -1}},
		{clinoWith(1), impl.Check{Read: -90, True: -90}}, {clinoWith(0), impl.Check{Read: 0, True: 91}},
	}
	for _, c := range cases {
		for at := range 10 {
			list := []impl.Check{}
			for i := range 10 {
				list = append(list, impl.Check{Read: 50 + i, True: 40})
			}
			if _, _, ok := impl.WorstCheck(c.x, list); !ok {
				t.Fatal("the list is valid before it is spoilt")
			}
			list[at] = c.failing
			if i, n, ok := impl.WorstCheck(c.x, list); ok || i != 0 || n != 0 {
				t.Errorf("WorstCheck(%v) with %v at %d = %d, %d, %v", c.x, c.failing, at, i, n, ok)
			}
		}
	}
}

func TestFitZeroAtKnownChecks(t *testing.T) {
	cases := []struct {
		x    impl.Tool
		list []impl.Check
		want int
	}{
		{compassWith(3), []impl.Check{{Read: 10, True: 12}, {Read: 350, True: 352}}, -2},
		{compassWith(0), []impl.Check{{Read: 1, True: 358}}, 3}, {compassWith(0), []impl.Check{{Read: 358, True: 1}}, -3},
		{compassWith(0), []impl.Check{{Read: 1, True: 358}, {Read: 358, True: 355}, {Read: 2, True: 359}}, 3},
		// The errors of a compass go around: just opposite, -50 and 50 fit equally well.
		{compassWith(0), []impl.Check{{Read: 180, True: 0}}, -50}, {compassWith(0), []impl.Check{{Read: 181, True: 0}}, -50},
		{compassWith(0), []impl.Check{{Read: 179, True: 0}}, 50},
		{clinoWith(9), []impl.Check{{Read: 10, True: 6}, {Read: -10, True: -14}}, 4},
		{tapeWith(9, 1000), []impl.Check{{Read: 100, True: 97}, {Read: 200, True: 191}}, 6},
		{tapeWith(0, 1000), []impl.Check{{Read: 100, True: 50}}, 50}, {tapeWith(0, 1000), []impl.Check{{Read: 100, True: 150}}, -50},
		{tapeWith(0, 1000), []impl.Check{{Read: 100, True: 0}}, 50}, {tapeWith(0, 1000), []impl.Check{{Read: 100, True: 200}}, -50},
		// Ties: the smallest Zero is told, also if a greater one is at hand.
		{tapeWith(1, 1000), []impl.Check{{Read: 100, True: 100}, {Read: 200, True: 199}}, 0},
		{clinoWith(-2), []impl.Check{{Read: 0, True: 5}, {Read: 10, True: 10}}, -3},
		{compassWith(1), []impl.Check{{Read: 0, True: 0}, {Read: 0, True: 359}}, 0},
		{tapeWith(35, 900), []impl.Check{{Read: 100, True: 59}}, 34},
		// A Zero with which a check fails does not count, though it would fit better.
		{tapeWith(0, 1000), []impl.Check{{Read: 0, True: 0}, {Read: 100, True: 90}}, 0},
		{tapeWith(30, 1000), []impl.Check{{Read: 0, True: 0}, {Read: 100, True: 90}}, 0},
		{tapeWith(0, 1000), []impl.Check{{Read: 1000, True: 1000}, {Read: 100, True: 110}}, 0},
		{clinoWith(0), []impl.Check{{Read: 90, True: 90}, {Read: 0, True: 10}}, 0},
		{clinoWith(-20), []impl.Check{{Read: -90, True: -90}, {Read: 10, True: 0}}, 0},
		{clinoWith(7), []impl.Check{{Read: -90, True: 0}, {Read: 90, True: 0}}, 0},
	}
	for _, c := range cases {
		want := c.x
		want.Zero = c.want
		if told, ok := impl.FitZero(c.x, c.list); !ok || told != want {
			t.Errorf("FitZero(%v, %v) = %v, %v, not the zero %d", c.x, c.list, told, ok, c.want)
		}
		checkFitZero(t, c.x, c.list)
	}
}

func TestFitZeroFailsWithoutAZero(t *testing.T) {
	eleven := checksWithErrors(0, 0, 0, 0, 0, 0, 0, 0, 0, 0, 0)
	cases := []struct {
		x    impl.Tool
		list []impl.Check
	}{
		// No Zero brings the greatest reading of a long tape within the bounds, nor both ends of one.
		{tapeWith(0, 1100), []impl.Check{{Read: 1000, True: 1000}}},
		{tapeWith(0, 1100), []impl.Check{{Read: 100, True: 110}, {Read: 960, True: 1000}}},
		{tapeWith(0, 1001), []impl.Check{{Read: 0, True: 0}, {Read: 1000, True: 1000}, {Read: 5, True: 1001}}},
		{tapeWith(0, 1010), []impl.Check{{Read: 0, True: 0}, {Read: 1000, True: 1000}}},
		// Checks that are invalid, and lists that are.
		{tapeWith(0, 1000), []impl.Check{{Read: 5, True: 5}, {Read: 5, True: -1}}}, {tapeWith(0, 1000), []impl.Check{{Read: 1001, True: 1000}}},
		{compassWith(0), []impl.Check{{Read: 360, True: 0}}}, {compassWith(0), []impl.Check{{Read: 0, True: 360}}},
		{clinoWith(0), []impl.Check{{Read: 91, True: 90}}}, {clinoWith(0), []impl.Check{{Read: 0, True: -91}}},
		{tapeWith(0, 1000), nil}, {compassWith(0), []impl.Check{}}, {tapeWith(0, 1000), eleven},
		// Tools that are invalid, though another Zero would make some of them valid.
		{tapeWith(51, 1000), eleven[:3]}, {tapeWith(-51, 1000), eleven[:3]}, {compassWith(51), []impl.Check{{Read: 5, True: 5}}},
		{clinoWith(-51), []impl.Check{{Read: 5, True: 5}}}, {tapeWith(0, 899), eleven[:3]}, {impl.Tool{}, eleven[:3]},
		{impl.Tool{Id: 1, Kind: 3, Scale: 1000}, []impl.Check{{Read: 5, True: 5}}}, {tapeWith(math.MinInt, 1000), eleven[:3]},
		{impl.Tool{Id: 1, Kind: impl.KindCompass, Scale: 1001}, []impl.Check{{Read: 5, True: 5}}},
	}
	for _, c := range cases {
		if told, ok := impl.FitZero(c.x, c.list); ok || told != (impl.Tool{}) {
			t.Errorf("FitZero(%v, %v) = %v, %v", c.x, c.list, told, ok)
		}
	}
	if told, ok := impl.FitZero(tapeWith(50, 1000), eleven[:10]); !ok || told != tapeWith(0, 1000) {
		t.Error("ten checks:", told, ok)
	}
}

// TestTheZeroThatFitsIsNeverWorse has instruments that are slightly and grossly off.
func TestTheZeroThatFitsIsNeverWorse(t *testing.T) {
	n := numbers{3}
	for range 2500 {
		x := n.tool()
		checkFitZero(t, x, n.checks(x.Kind, n.within(1, 10), n.next(8)))
		checkFitZero(t, x, n.checks(x.Kind, n.within(1, 3), 400))
	}
	for zero := -50; zero <= 50; zero++ {
		for _, list := range [][]impl.Check{{{Read: 50, True: 45}}, {{Read: 0, True: 0}}, {{Read: 20, True: 0}, {Read: 0, True: 20}}} {
			checkFitZero(t, tapeWith(zero, 1000), list)
			checkFitZero(t, tapeWith(zero, 913), list)
			checkFitZero(t, compassWith(zero), list)
			checkFitZero(t, clinoWith(zero), list)
		}
	}
}

func TestFitScaleAtKnownChecks(t *testing.T) {
	cases := []struct {
		x    impl.Tool
		list []impl.Check
		want int
	}{
		{tapeWith(0, 1000), []impl.Check{{Read: 100, True: 110}, {Read: 500, True: 550}}, 1099},
		{tapeWith(0, 1000), []impl.Check{{Read: 1000, True: 950}}, 950}, {tapeWith(0, 1100), []impl.Check{{Read: 500, True: 500}}, 999},
		{tapeWith(10, 1000), []impl.Check{{Read: 510, True: 550}}, 1099}, {tapeWith(-10, 1000), []impl.Check{{Read: 990, True: 970}}, 970},
		{tapeWith(0, 1000), []impl.Check{{Read: 500, True: 900}}, 1099}, {tapeWith(0, 1000), []impl.Check{{Read: 1000, True: 0}}, 900},
		// Ties: the smallest Scale is told.
		{tapeWith(0, 1000), []impl.Check{{Read: 0, True: 0}}, 900}, {tapeWith(7, 1100), []impl.Check{{Read: 7, True: 500}}, 900},
		{tapeWith(0, 1000), []impl.Check{{Read: 1, True: 1}}, 900}, {tapeWith(0, 1000), []impl.Check{{Read: 10, True: 10}}, 950},
		{tapeWith(0, 1000), []impl.Check{{Read: 100, True: 100}}, 995},
		// A Scale with which a check fails does not count, though it would fit better.
		{tapeWith(0, 1000), []impl.Check{{Read: 1000, True: 1000}, {Read: 100, True: 110}}, 995},
		{tapeWith(0, 950), []impl.Check{{Read: 1000, True: 1000}, {Read: 500, True: 600}}, 999},
		{tapeWith(-50, 1100), []impl.Check{{Read: 1000, True: 1000}, {Read: 450, True: 600}}, 951},
	}
	for _, c := range cases {
		if told, ok := impl.FitScale(c.x, c.list); !ok || told != tapeWith(c.x.Zero, c.want) {
			t.Errorf("FitScale(%v, %v) = %v, %v, not the scale %d", c.x, c.list, told, ok, c.want)
		}
		checkFitScale(t, c.x, c.list)
	}
}

func TestFitScaleFailsWithoutAScale(t *testing.T) {
	eleven := checksWithErrors(0, 0, 0, 0, 0, 0, 0, 0, 0, 0, 0)
	cases := []struct {
		x    impl.Tool
		list []impl.Check
	}{
		// No Scale brings a reading below Zero within the bounds.
		{tapeWith(11, 1000), []impl.Check{{Read: 10, True: 0}}}, {tapeWith(1, 900), []impl.Check{{Read: 100, True: 100}, {Read: 0, True: 0}}},
		{tapeWith(0, 1000), []impl.Check{{Read: 5, True: 5}, {Read: 5, True: 1001}}}, {tapeWith(0, 1000), []impl.Check{{Read: -1, True: 0}}},
		{tapeWith(0, 1000), nil}, {tapeWith(0, 1000), []impl.Check{}}, {tapeWith(0, 1000), eleven},
		// Other Kinds.
		{compassWith(0), []impl.Check{{Read: 1, True: 1}}}, {clinoWith(0), []impl.Check{{Read: 1, True: 1}}},
		// Tools that are invalid, though another Scale would make some of them valid.
		{tapeWith(0, 899), eleven[:3]}, {tapeWith(0, 1101), eleven[:3]}, {tapeWith(0, 0), eleven[:3]}, {tapeWith(51, 1000), eleven[:3]},
		{impl.Tool{}, eleven[:3]}, {impl.Tool{Id: 100, Scale: 1000}, eleven[:3]}, {impl.Tool{Id: 1, Kind: 3, Scale: 1000}, eleven[:3]},
		{impl.Tool{Id: 1, Kind: -1, Scale: 1000}, eleven[:3]}, {impl.Tool{Id: 1, Kind: impl.KindClino, Scale: 990}, []impl.Check{{Read: 1, True: 1}}},
	}
	for _, c := range cases {
		if told, ok := impl.FitScale(c.x, c.list); ok || told != (impl.Tool{}) {
			t.Errorf("FitScale(%v, %v) = %v, %v", c.x, c.list, told, ok)
		}
	}
	if told, ok := impl.FitScale(tapeWith(0, 1100), eleven[:10]); !ok || told.Zero != 0 || told.Id != 1 {
		t.Error("ten checks:", told, ok)
	}
}

func TestTheScaleThatFitsIsNeverWorse(t *testing.T) {
	n := numbers{4}
	for range 1500 {
		x := n.tool()
		checkFitScale(t, x, n.checks(x.Kind, n.within(1, 10), n.next(8)))
		x.Kind = impl.KindTape
		checkFitScale(t, x, n.checks(impl.KindTape, n.within(1, 3), 400))
	}
}

func TestToolsOfEachKind(t *testing.T) {
	list := toolsWithIds(3, 8, 20, 21, 50, 98, 99)
	cases := []struct {
		list []impl.Tool
		kind int
		want []int
	}{
		{list, impl.KindTape, []int{3, 21, 99}}, {list, impl.KindCompass, []int{8, 50}}, {list, impl.KindClino, []int{20, 98}},
		{list[:1], impl.KindTape, []int{3}}, {list[:1], impl.KindCompass, nil}, {list[:2], impl.KindClino, nil},
		{nil, impl.KindTape, nil}, {nil, impl.KindCompass, nil}, {[]impl.Tool{}, impl.KindClino, nil},
	}
	for _, c := range cases {
		if ids, ok := impl.ToolsOf(c.list, c.kind); !ok || !slices.Equal(ids, c.want) {
			t.Errorf("ToolsOf(%v, %d) = %v, %v", c.list, c.kind, ids, ok)
		}
	}
}

func TestToolsOfRefuses(t *testing.T) {
	cases := []struct {
		list []impl.Tool
		kind int
	}{
		{toolsWithIds(1, 2, 3), 3}, {toolsWithIds(1, 2, 3), -1}, {nil, 3}, {nil, -1}, {toolsWithIds(1), math.MaxInt},
		{toolsWithIds(2, 1), 0}, {toolsWithIds(2, 2), 0}, {toolsWithIds(0, 1), 1}, {toolsWithIds(1, 100), 0},
		{toolsWithIds(1, 2, 3, 4, 5, 6, 7, 8, 9), 0}, {[]impl.Tool{tapeWith(0, 1000), compassWith(51)}, 0},
		{[]impl.Tool{{Id: 1, Kind: 3, Scale: 1000}}, 3}, {[]impl.Tool{{}}, 0},
	}
	for _, c := range cases {
		if ids, ok := impl.ToolsOf(c.list, c.kind); ok || len(ids) != 0 {
			t.Errorf("ToolsOf(%v, %d) = %v, %v", c.list, c.kind, ids, ok)
		}
	}
}

func TestReadBackAtKnownReadings(t *testing.T) {
	cases := []struct {
		x               impl.Tool
		corrected, want int
	}{
		{tapeWith(2, 1010), 101, 102}, {tapeWith(0, 1000), 0, 0}, {tapeWith(0, 1000), 1000, 1000}, {tapeWith(5, 1000), 0, 5},
		{tapeWith(-50, 1000), 50, 0}, {tapeWith(50, 1000), 950, 1000},
		// Two readings of a short tape have one correction: 5 and 6 have 4.5 and 5.4.
		{tapeWith(0, 900), 5, 5}, {tapeWith(0, 900), 14, 15}, {tapeWith(0, 900), 900, 1000}, {tapeWith(10, 900), 5, 15},
		{tapeWith(0, 950), 10, 10}, {tapeWith(0, 950), 29, 30},
		{compassWith(3), 358, 1}, {compassWith(3), 0, 3}, {compassWith(3), 356, 359}, {compassWith(3), 357, 0}, {compassWith(-3), 0, 357},
		{compassWith(-3), 2, 359}, {compassWith(-3), 3, 0}, {compassWith(0), 359, 359}, {compassWith(50), 310, 0}, {compassWith(-50), 49, 359},
		{clinoWith(5), -2, 3}, {clinoWith(50), -90, -40}, {clinoWith(50), 40, 90}, {clinoWith(-50), -40, -90}, {clinoWith(-50), 90, 40},
		{clinoWith(0), -90, -90}, {clinoWith(0), 90, 90}, {clinoWith(0), 0, 0},
	}
	for _, c := range cases {
		if n, ok := impl.ReadBack(c.x, c.corrected); !ok || n != c.want {
			t.Errorf("ReadBack(%v, %d) = %d, %v, not %d", c.x, c.corrected, n, ok, c.want)
		}
	}
}

func TestReadBackRefuses(t *testing.T) {
	cases := []struct {
		x         impl.Tool
		corrected int
	}{
		// Corrected readings within the bounds that no reading has.
		{tapeWith(0, 1100), 5}, {tapeWith(0, 1100), 16}, {tapeWith(0, 1010), 50}, {tapeWith(50, 1000), 951}, {tapeWith(50, 1000), 1000},
		{tapeWith(-50, 1000), 0}, {tapeWith(-50, 1000), 49}, {tapeWith(0, 900), 901}, {clinoWith(50), 41}, {clinoWith(50), 90},
		{clinoWith(-50), -41}, {clinoWith(-50), -90},
		// Corrected readings out of the bounds.
		{tapeWith(0, 1000), -1}, {tapeWith(1, 1000), -1}, {tapeWith(0, 1000), 1001}, {tapeWith(-1, 1000), 1001}, {tapeWith(0, 1100), 1100},
		{compassWith(0), -1}, {compassWith(3), -1}, {compassWith(0), 360}, {compassWith(-3), 360}, {compassWith(0), 720},
		{clinoWith(0), -91}, {clinoWith(1), -91}, {clinoWith(0), 91}, {clinoWith(-1), 91},
		// Invalid Tools.
		{impl.Tool{}, 0}, {tapeWith(51, 1000), 5}, {tapeWith(0, 1101), 0}, {compassWith(-51), 5}, {clinoWith(51), 5},
		{impl.Tool{Id: 1, Kind: 3, Scale: 1000}, 5}, {impl.Tool{Id: 1, Kind: -1, Scale: 1000}, 0}, {impl.Tool{Id: 100, Scale: 1000}, 5},
	}
	for _, c := range cases {
		if n, ok := impl.ReadBack(c.x, c.corrected); ok || n != 0 {
			t.Errorf("ReadBack(%v, %d) = %d, %v", c.x, c.corrected, n, ok)
		}
	}
}

func TestReadBackOfAllCorrectedReadings(t *testing.T) {
	tools := []impl.Tool{}
	for zero := -50; zero <= 50; zero += 5 {
		tools = append(tools, compassWith(zero), clinoWith(zero), tapeWith(zero, 900), tapeWith(zero, 987), tapeWith(zero, 1000), tapeWith(zero, 1100))
	}
	for _, x := range tools {
		smallest := map[int]int{}
		for reading := readingsOf[x.Kind][1]; reading >= readingsOf[x.Kind][0]; reading-- {
			if n, ok := ruledCorrection(x, reading); ok {
				smallest[n] = reading
			}
		}
		for corrected := -100; corrected <= 1110; corrected++ {
			want, valid := smallest[corrected]
			if n, ok := impl.ReadBack(x, corrected); ok != valid || n != want {
				t.Errorf("ReadBack(%v, %d) = %d, %v, not %d, %v", x, corrected, n, ok, want, valid)
			}
		}
	}
}

// toolNumbers are at and around the limits of Id, Kind, Zero and Scale, and far beyond.
var toolNumbers = []int{math.MinInt, -1000, -51, -50, -1, 0, 1, 2, 3, 50, 51, 99, 100, 899, 900, 1000, 1100, 1101, 1 << 40, math.MaxInt}

// readNumbers are at and around the bounds of readings, and far beyond.
var readNumbers = []int{math.MinInt, math.MinInt + 50, -91, -90, -1, 0, 1, 45, 90, 91, 359, 360, 999, 1000, 1001, math.MaxInt - 50, math.MaxInt}

// oddTools have all combinations of the numbers above.
func oddTools() []impl.Tool {
	list := []impl.Tool{}
	for _, id := range []int{math.MinInt, 0, 1, 99, 100, math.MaxInt} {
		for _, kind := range []int{math.MinInt, -1, 0, 1, 2, 3, math.MaxInt} {
			for _, zero := range toolNumbers {
				for _, scale := range toolNumbers {
					list = append(list, impl.Tool{Id: id, Kind: kind, Zero: zero, Scale: scale})
				}
			}
		}
	}
	return list
}

func TestInstrumentFunctionsReturnForAllArguments(t *testing.T) {
	for _, x := range oddTools() {
		valid := ruledTool(x)
		if impl.IsTool(x) != valid || impl.AreTools([]impl.Tool{x}) != valid {
			t.Errorf("IsTool or AreTools of %v is not %v", x, valid)
		}
		for _, kind := range []int{-1, 0, 1, 2, 3, math.MaxInt, math.MinInt} {
			ids, ok := impl.ToolsOf([]impl.Tool{x}, kind)
			if ok != (valid && isKind(kind)) || slices.Equal(ids, []int{x.Id}) != (ok && x.Kind == kind) {
				t.Errorf("ToolsOf(%v, %d) = %v, %v", x, kind, ids, ok)
			}
		}
		for _, reading := range readNumbers {
			want, corrects := ruledCorrection(x, reading)
			if n, ok := impl.CorrectReading(x, reading); ok != corrects || n != want {
				t.Errorf("CorrectReading(%v, %d) = %d, %v", x, reading, n, ok)
			}
			for _, really := range readNumbers {
				want, corrects := ruledError(x, impl.Check{Read: reading, True: really})
				if n, ok := impl.CheckError(x, impl.Check{Read: reading, True: really}); ok != corrects || n != want {
					t.Errorf("CheckError(%v, %d, %d) = %d, %v", x, reading, really, n, ok)
				}
			}
		}
	}
}

func TestFitsAndReadBackReturnForAllArguments(t *testing.T) {
	for i, x := range oddTools() {
		// Every valid one is taken, and every tenth of the others.
		if !ruledTool(x) && i%10 != 0 {
			continue
		}
		for j, read := range readNumbers {
			list := []impl.Check{{Read: 60, True: 55}, {Read: read, True: readNumbers[(i+j)%len(readNumbers)]}}
			want, farthest, valid := ruledWorst(x, list)
			if at, n, ok := impl.WorstCheck(x, list); ok != valid || at != want || n != farthest {
				t.Errorf("WorstCheck(%v, %v) = %d, %d, %v", x, list, at, n, ok)
			}
			checkFitZero(t, x, list)
			checkFitScale(t, x, list)
			if n, ok := impl.ReadBack(x, read); ok && !ruledTool(x) || !ok && n != 0 {
				t.Errorf("ReadBack(%v, %d) = %d, %v", x, read, n, ok)
			}
		}
	}
}

func TestInstrumentFunctionsLeaveTheirLists(t *testing.T) {
	// Behind the length of a list there is something that is neither read nor written.
	tools := append(toolsWithIds(4, 8, 15, 16), impl.Tool{Id: -7, Kind: 9, Zero: 777, Scale: 7})[:4]
	checks := append(checksWithErrors(3, -4, 2), impl.Check{Read: -777, True: 777})[:3]
	toolsBefore, checksBefore := slices.Clone(tools[:5]), slices.Clone(checks[:4])
	if !impl.AreTools(tools) {
		t.Error("AreTools reads behind the length")
	}
	ids, ok := impl.ToolsOf(tools, impl.KindTape)
	if !ok || !slices.Equal(ids, []int{4, 16}) {
		t.Error("ToolsOf", ids, ok)
	}
	if i, n, ok := impl.WorstCheck(tapeWith(0, 1000), checks); !ok || i != 1 || n != 4 {
		t.Error("WorstCheck", i, n, ok)
	}
	if x, ok := impl.FitZero(tapeWith(9, 1000), checks); !ok || x.Zero != -1 {
		t.Error("FitZero", x, ok)
	}
	if _, ok := impl.FitScale(tapeWith(0, 1000), checks); !ok {
		t.Error("FitScale")
	}
	if !slices.Equal(tools[:5], toolsBefore) || !slices.Equal(checks[:4], checksBefore) {
		t.Error("a list was modified", tools[:5], checks[:4])
	}
	ids[0] = 99
	if again, ok := impl.ToolsOf(tools, impl.KindTape); !ok || !slices.Equal(again, []int{4, 16}) {
		t.Error("ToolsOf after its result was written to", again, ok)
	}
}
