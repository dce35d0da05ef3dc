package tests

import (
	"math"
	"math/big"
	"math/bits"
	"slices"
	"testing"

	"loop.example/g00933/impl"
)

var axes = []int{impl.AxisEast, impl.AxisNorth, impl.AxisUp}

var badAxes = []int{-1, 3, -2, 4, -3, 1 << 32, math.MinInt, math.MaxInt}

func ruledMeasure(s impl.Shift, axis int) int {
	switch axis {
	case impl.AxisEast:
		return s.East
	case impl.AxisNorth:
		return s.North
	}
	return s.Up
}

// ruledAdjustment is found without equations: the adjusted place of a station is the mean of its
// places along the Legs of each tree alone. That these make the sum of the squares smallest is
// checked besides.
type ruledAdjustment struct {
	legs   []impl.Leg
	net    ruledNetwork
	placed []int
	trees  int
	sums   [impl.MaxStations]impl.Shift
}

func ruledAdjustmentOf(legs []impl.Leg) ruledAdjustment {
	a := ruledAdjustment{legs: legs, net: ruledNetworkOf(legs)}
	a.placed = append(slices.Clone(a.net.tree), a.net.closing...)
	slices.Sort(a.placed)
	for set := range 1 << len(a.placed) {
		// As many Legs as place one station each have no loop if they place all.
		if bits.OnesCount(uint(set)) != len(a.net.tree) {
			continue
		}
		some := []impl.Leg{}
		for k, leg := range a.placed {
			if set>>k%2 == 1 {
				some = append(some, legs[leg])
			}
		}
		if alone := ruledNetworkOf(some); len(alone.places) == len(a.net.places) {
			a.trees++
			for station, place := range alone.places {
				a.sums[station] = plus(a.sums[station], place)
			}
		}
	}
	return a
}

// coords are times the number of trees, as the residuals are.
func (a ruledAdjustment) coords(axis int) []int {
	list := []int{}
	for _, sum := range a.sums {
		list = append(list, ruledMeasure(sum, axis))
	}
	return list
}

func (a ruledAdjustment) residual(leg, axis int) int {
	x := a.legs[leg]
	between := plus(a.sums[x.To], opposite(a.sums[x.From]))
	return a.trees*ruledMeasure(ruledShift(x), axis) - ruledMeasure(between, axis)
}

// squares is the sum of the squares of all residuals that any coordinates leave, times the
// square of den.
func (a ruledAdjustment) squares(axis int, coords []int, den int) int {
	sum := 0
	for _, leg := range a.placed {
		x := a.legs[leg]
		residual := den*ruledMeasure(ruledShift(x), axis) - coords[x.To] + coords[x.From]
		sum += residual * residual
	}
	return sum
}

func (a ruledAdjustment) exact() []int {
	exact := []int{}
	for _, leg := range a.placed {
		if a.residual(leg, 0) == 0 && a.residual(leg, 1) == 0 && a.residual(leg, 2) == 0 {
			exact = append(exact, leg)
		}
	}
	return exact
}

func (a ruledAdjustment) depth() *big.Rat {
	ups := []int{}
	for station := range a.net.places {
		ups = append(ups, a.sums[station].Up)
	}
	return fraction(slices.Max(ups)-slices.Min(ups), a.trees)
}

// largest sorts the placed Legs; it is 0 if there are none.
func (a ruledAdjustment) largest(axis int) int {
	sorted := append(slices.Clone(a.placed), 0)[:max(1, len(a.placed))]
	slices.SortStableFunc(sorted, func(i, j int) int {
		one, two := a.residual(i, axis), a.residual(j, axis)
		return max(two, -two) - max(one, -one)
	})
	return sorted[0]
}

// fraction gives it the lowest terms and a positive denominator.
func fraction(num, den int) *big.Rat { return big.NewRat(int64(num), int64(den)) }

func checkFraction(t *testing.T, call string, legs []impl.Leg, num, den int, ok bool, want *big.Rat) {
	t.Helper()
	if !ok || int64(num) != want.Num().Int64() || int64(den) != want.Denom().Int64() {
		t.Errorf("%s of %v = %d, %d, %v, not %v", call, legs, num, den, ok, want)
	}
}

func checkTreeCount(t *testing.T, legs []impl.Leg, want int) {
	t.Helper()
	if n, ok := impl.TreeCount(legs); !ok || n != want {
		t.Errorf("TreeCount(%v) = %d, %v, not %d", legs, n, ok, want)
	}
}

func checkAxis(t *testing.T, legs []impl.Leg, axis int, coords []int, trees int) {
	t.Helper()
	got, den, ok := impl.AdjustAxis(legs, axis)
	if !ok || den != trees || !slices.Equal(got, coords) {
		t.Errorf("AdjustAxis(%v, %d) = %v, %d, %v, not %v, %d", legs, axis, got, den, ok, coords, trees)
	}
}

func checkResidual(t *testing.T, legs []impl.Leg, axis, leg int, want *big.Rat) {
	t.Helper()
	num, den, ok := impl.ResidualOf(legs, axis, leg)
	checkFraction(t, "ResidualOf", legs, num, den, ok, want)
}

func checkNoResidual(t *testing.T, legs []impl.Leg, axis, leg int) {
	t.Helper()
	if num, den, ok := impl.ResidualOf(legs, axis, leg); ok || num != 0 || den != 0 {
		t.Errorf("ResidualOf(%v, %d, %d) = %d, %d, %v", legs, axis, leg, num, den, ok)
	}
}

func checkBalanced(t *testing.T, legs []impl.Leg, axis int, coords []int, den int, want bool) {
	t.Helper()
	if is, ok := impl.IsBalanced(legs, axis, coords, den); !ok || is != want {
		t.Errorf("IsBalanced(%v, %d, %v, %d) = %v, %v, not %v", legs, axis, coords, den, is, ok, want)
	}
}

func checkNoBalance(t *testing.T, legs []impl.Leg, axis int, coords []int, den int) {
	t.Helper()
	if is, ok := impl.IsBalanced(legs, axis, coords, den); ok || is {
		t.Errorf("IsBalanced(%v, %d, %v, %d) = %v, %v", legs, axis, coords, den, is, ok)
	}
}

func checkSquareSum(t *testing.T, legs []impl.Leg, axis int, want *big.Rat) {
	t.Helper()
	num, den, ok := impl.SquareSum(legs, axis)
	checkFraction(t, "SquareSum", legs, num, den, ok, want)
}

func checkExact(t *testing.T, legs []impl.Leg, want ...int) {
	t.Helper()
	got, ok := impl.ExactLegs(legs)
	checkIndices(t, "ExactLegs", legs, got, ok, want)
}

func checkAdjustedDepth(t *testing.T, legs []impl.Leg, want *big.Rat) {
	t.Helper()
	num, den, ok := impl.AdjustedDepth(legs)
	checkFraction(t, "AdjustedDepth", legs, num, den, ok, want)
}

func checkLargest(t *testing.T, legs []impl.Leg, axis, want int, isThere bool) {
	t.Helper()
	if leg, ok := impl.LargestResidual(legs, axis); ok != isThere || leg != want {
		t.Errorf("LargestResidual(%v, %d) = %d, %v, not %d, %v", legs, axis, leg, ok, want, isThere)
	}
}

// checkAdjustment checks all functions at Legs against the document's words.
func checkAdjustment(t *testing.T, legs []impl.Leg) ruledAdjustment {
	t.Helper()
	want := ruledAdjustmentOf(legs)
	checkTreeCount(t, legs, want.trees)
	checkExact(t, legs, want.exact()...)
	checkAdjustedDepth(t, legs, want.depth())
	for _, axis := range axes {
		coords := want.coords(axis)
		checkAxis(t, legs, axis, coords, want.trees)
		checkBalances(t, want, axis)
		checkSquareSum(t, legs, axis, fraction(want.squares(axis, coords, want.trees), want.trees*want.trees))
		checkLargest(t, legs, axis, want.largest(axis), len(want.placed) > 0)
		checkResiduals(t, want, axis)
	}
	checkNoAxis(t, legs, -1)
	checkNoAxis(t, legs, 3)
	return want
}

// checkResiduals checks those of bridges besides.
func checkResiduals(t *testing.T, want ruledAdjustment, axis int) {
	t.Helper()
	for _, leg := range want.placed {
		checkResidual(t, want.legs, axis, leg, fraction(want.residual(leg, axis), want.trees))
		if ruledBridge(want.legs, leg) {
			checkResidual(t, want.legs, axis, leg, fraction(0, 1))
		}
	}
	for _, leg := range append(want.net.apart, -1, len(want.legs), len(want.legs)+1) {
		checkNoResidual(t, want.legs, axis, leg)
	}
}

// checkBalances changes the coordinates at each station by the least that is possible. Only
// those of stations that are not placed may change; with others the sum of the squares grows,
// and as much upward as downward.
func checkBalances(t *testing.T, want ruledAdjustment, axis int) {
	t.Helper()
	coords, den, ok := impl.AdjustAxis(want.legs, axis)
	if !ok || len(coords) != impl.MaxStations {
		t.Errorf("AdjustAxis(%v, %d) = %v, %v", want.legs, axis, coords, ok)
		return
	}
	checkBalanced(t, want.legs, axis, coords, den, true)
	least := want.squares(axis, coords, den)
	for station := range coords {
		_, isPlaced := want.net.places[station]
		sums := []int{}
		for _, change := range []int{1, -1} {
			changed := slices.Clone(coords)
			changed[station] += change
			checkBalanced(t, want.legs, axis, changed, den, !isPlaced)
			sums = append(sums, want.squares(axis, changed, den))
		}
		if sums[0] != sums[1] || (sums[0] > least) != (isPlaced && len(want.placed) > 0) {
			t.Errorf("%v, %d: the sum of the squares is %d, with other coordinates of %d %v", want.legs, axis, least, station, sums)
		}
	}
}

// checkNoAxis checks that no function takes the axis, or the Legs, whatever else is asked for.
func checkNoAxis(t *testing.T, legs []impl.Leg, axis int) {
	t.Helper()
	coords, trees, one := impl.AdjustAxis(legs, axis)
	num, den, two := impl.SquareSum(legs, axis)
	if one || two || len(coords) != 0 || trees != 0 || num != 0 || den != 0 {
		t.Errorf("%v, %d: %v, %d, %v; %d, %d, %v", legs, axis, coords, trees, one, num, den, two)
	}
	checkLargest(t, legs, axis, 0, false)
	checkNoBalance(t, legs, axis, make([]int, impl.MaxStations), 1)
	for leg := -1; leg <= len(legs); leg++ {
		checkNoResidual(t, legs, axis, leg)
	}
}

// checkNoAdjustment checks that no function takes the list, whatever else it is asked for.
func checkNoAdjustment(t *testing.T, legs []impl.Leg) {
	t.Helper()
	trees, one := impl.TreeCount(legs)
	exact, two := impl.ExactLegs(legs)
	num, den, three := impl.AdjustedDepth(legs)
	if one || two || three || trees != 0 || len(exact) != 0 || num != 0 || den != 0 {
		t.Errorf("%v: %d, %v; %v, %v; %d, %d, %v", legs, trees, one, exact, two, num, den, three)
	}
	for _, axis := range append([]int{-1, 3}, axes...) {
		checkNoAxis(t, legs, axis)
	}
}

// moebius, cube, and bipartite have as many Legs as are allowed. No Legs between 8 stations have
// more trees than the first, and none between any stations more than the last.
func moebius() []impl.Leg {
	return joined([2]int{0, 1}, [2]int{1, 2}, [2]int{3, 2}, [2]int{3, 4}, [2]int{4, 5}, [2]int{6, 5}, [2]int{6, 7}, [2]int{7, 0},
		[2]int{0, 4}, [2]int{5, 1}, [2]int{2, 6}, [2]int{7, 3})
}

func cube() []impl.Leg {
	return joined([2]int{6, 7}, [2]int{4, 5}, [2]int{2, 3}, [2]int{0, 1}, [2]int{7, 5}, [2]int{6, 4}, [2]int{3, 1}, [2]int{0, 2},
		[2]int{3, 7}, [2]int{2, 6}, [2]int{5, 1}, [2]int{0, 4})
}

func bipartite(few, many []int) []impl.Leg {
	pairs := [][2]int{}
	for i, one := range few {
		for j, other := range many {
			pair := [2]int{one, other}
			if (i+j)%2 == 1 {
				pair = [2]int{other, one}
			}
			pairs = append(pairs, pair)
		}
	}
	return joined(pairs...)
}

func completeAmong(stations ...int) []impl.Leg {
	pairs := [][2]int{}
	for i, one := range stations {
		for _, other := range stations[i+1:] {
			pairs = append(pairs, [2]int{one, other})
		}
	}
	return joined(pairs...)
}

// repeatedLegs lead several times from each station to the next one, in turn there and back.
func repeatedLegs(times, stations int) []impl.Leg {
	pairs := [][2]int{}
	for station := range stations - 1 {
		for i := range times {
			pairs = append(pairs, [2]int{station + i%2, station + 1 - i%2})
		}
	}
	return joined(pairs...)
}

func TestAdjustmentAtKnownCaves(t *testing.T) {
	type fractions [][2]int
	cases := []struct {
		legs      []impl.Leg
		axis      int
		trees     int
		coords    []int
		residuals fractions
		squares   [2]int
	}{
		// One loop: its misclosure is shared by all of its Legs, whatever their lengths.
		{[]impl.Leg{eastward(0, 1, 30), northward(1, 2, 40), westward(2, 3, 33), southward(3, 0, 41)}, impl.AxisEast,
			4, []int{0, 123, 126, -3, 0, 0, 0, 0}, fractions{{-3, 4}, {-3, 4}, {-3, 4}, {-3, 4}}, [2]int{9, 4}},
		{[]impl.Leg{eastward(0, 1, 30), northward(1, 2, 40), westward(2, 3, 33), southward(3, 0, 41)}, impl.AxisNorth,
			4, []int{0, 1, 162, 163, 0, 0, 0, 0}, fractions{{-1, 4}, {-1, 4}, {-1, 4}, {-1, 4}}, [2]int{1, 4}},
		{[]impl.Leg{eastward(0, 1, 30), northward(1, 2, 40), westward(2, 3, 33), northward(0, 3, 41)}, impl.AxisNorth,
			4, []int{0, 1, 162, 163, 0, 0, 0, 0}, fractions{{-1, 4}, {-1, 4}, {-1, 4}, {1, 4}}, [2]int{1, 4}},
		{[]impl.Leg{eastward(0, 1, 30), northward(1, 2, 40), westward(2, 3, 33), southward(3, 0, 41)}, impl.AxisUp,
			4, []int{0, 0, 0, 0, 0, 0, 0, 0}, fractions{{0, 1}, {0, 1}, {0, 1}, {0, 1}}, [2]int{0, 1}},
		// Two and three Legs between two stations, in the same direction and in opposite ones.
		{[]impl.Leg{eastward(0, 1, 100), eastward(0, 1, 110)}, impl.AxisEast, 2, []int{0, 210, 0, 0, 0, 0, 0, 0}, fractions{{-5, 1}, {5, 1}}, [2]int{50, 1}},
		{[]impl.Leg{eastward(0, 1, 100), westward(1, 0, 110)}, impl.AxisEast, 2, []int{0, 210, 0, 0, 0, 0, 0, 0}, fractions{{-5, 1}, {-5, 1}}, [2]int{50, 1}},
		{[]impl.Leg{eastward(7, 0, 100), eastward(7, 0, 111)}, impl.AxisEast, 2, []int{0, 0, 0, 0, 0, 0, 0, -211}, fractions{{-11, 2}, {11, 2}}, [2]int{121, 2}},
		{[]impl.Leg{upward(0, 1, 100), upward(0, 1, 110), upward(0, 1, 112)}, impl.AxisUp, 3, []int{0, 322, 0, 0, 0, 0, 0, 0}, fractions{{-22, 3}, {8, 3}, {14, 3}}, [2]int{248, 3}},
		{[]impl.Leg{upward(0, 1, 100), downward(1, 0, 110), upward(0, 1, 112)}, impl.AxisUp, 3, []int{0, 322, 0, 0, 0, 0, 0, 0}, fractions{{-22, 3}, {-8, 3}, {14, 3}}, [2]int{248, 3}},
		{[]impl.Leg{upward(1, 0, 100), downward(0, 1, 110), upward(1, 0, 112)}, impl.AxisUp, 3, []int{0, -322, 0, 0, 0, 0, 0, 0}, fractions{{-22, 3}, {-8, 3}, {14, 3}}, [2]int{248, 3}},
		{[]impl.Leg{eastward(0, 1, 100), eastward(1, 0, 100)}, impl.AxisEast, 2, []int{0, 0, 0, 0, 0, 0, 0, 0}, fractions{{100, 1}, {100, 1}}, [2]int{20000, 1}},
		// Loops that share a Leg.
		{[]impl.Leg{eastward(0, 1, 10), eastward(0, 1, 20), eastward(1, 2, 10), westward(2, 0, 39)}, impl.AxisEast,
			5, []int{0, 89, 167, 0, 0, 0, 0, 0}, fractions{{-39, 5}, {11, 5}, {-28, 5}, {-28, 5}}, [2]int{642, 5}},
		{[]impl.Leg{upward(0, 1, 10), upward(1, 2, 20), downward(2, 0, 32), upward(0, 3, 16), downward(3, 1, 3)}, impl.AxisUp,
			8, []int{0, 90, 253, 121, 0, 0, 0, 0}, fractions{{-5, 4}, {-3, 8}, {-3, 8}, {7, 8}, {7, 8}}, [2]int{27, 8}},
		{[]impl.Leg{northward(0, 1, 100), southward(1, 2, 7), southward(2, 0, 90), northward(0, 3, 50), northward(3, 1, 52), southward(2, 3, 44)}, impl.AxisNorth,
			16, []int{0, 1596, 1468, 776, 0, 0, 0, 0}, fractions{{1, 4}, {1, 1}, {7, 4}, {3, 2}, {3, 4}, {-3, 4}}, [2]int{15, 2}},
		// Loops that share a station, and one behind a bridge, beside Legs that hang apart.
		{[]impl.Leg{northward(0, 1, 10), northward(1, 0, 6), northward(0, 2, 30), northward(2, 3, 9), southward(3, 0, 45)}, impl.AxisNorth,
			6, []int{0, 12, 192, 258, 0, 0, 0, 0}, fractions{{8, 1}, {8, 1}, {-2, 1}, {-2, 1}, {-2, 1}}, [2]int{140, 1}},
		{[]impl.Leg{upward(6, 7, 500), eastward(0, 1, 400), eastward(1, 2, 10), eastward(1, 2, 17), westward(7, 6, 300)}, impl.AxisEast,
			2, []int{0, 800, 827, 0, 0, 0, 0, 0}, fractions{{}, {0, 1}, {-7, 2}, {7, 2}, {}}, [2]int{49, 2}},
		{shaft, impl.AxisEast, 3, []int{0, 300, 300, -100, -50, 300, 0, 0}, fractions{{0, 1}, {0, 1}, {0, 1}, {50, 3}, {}, {50, 3}, {50, 3}, {}}, [2]int{2500, 3}},
		{shaft, impl.AxisNorth, 3, []int{0, 0, 0, 0, 0, 120, 0, 0}, fractions{{0, 1}, {0, 1}, {0, 1}, {0, 1}, {}, {0, 1}, {0, 1}, {}}, [2]int{0, 1}},
		{shaft, impl.AxisUp, 3, []int{0, 0, -300, -3, -96, -300, 0, 0}, fractions{{0, 1}, {0, 1}, {0, 1}, {-1, 1}, {}, {-1, 1}, {-1, 1}, {}}, [2]int{3, 1}},
	}
	for _, c := range cases {
		checkTreeCount(t, c.legs, c.trees)
		checkAxis(t, c.legs, c.axis, c.coords, c.trees)
		checkBalanced(t, c.legs, c.axis, c.coords, c.trees, true)
		checkSquareSum(t, c.legs, c.axis, fraction(c.squares[0], c.squares[1]))
		for leg, want := range c.residuals {
			if want[1] == 0 {
				checkNoResidual(t, c.legs, c.axis, leg)
				continue
			}
			checkResidual(t, c.legs, c.axis, leg, fraction(want[0], want[1]))
		}
		checkAdjustment(t, c.legs)
	}
}

func TestAdjustmentWithoutLoops(t *testing.T) {
	cases := []struct {
		legs   []impl.Leg
		placed []int
	}{
		// Only the station 0 is placed: without Legs, and with such as do not reach it.
		{nil, nil}, {[]impl.Leg{}, nil}, {joined([2]int{1, 2}), nil}, {legsBetween(4, 5, 6, 7), nil},
		{legsBetween(4, 5, 6, 4), nil}, {joined([2]int{3, 7}, [2]int{3, 7}, [2]int{7, 3}), nil}, {completeAmong(1, 2, 3, 4), nil},
		// Chains and forks, from the station 0 and to it.
		{joined([2]int{0, 1}), []int{0}}, {joined([2]int{7, 0}), []int{0}}, {legsBetween(0, 1, 2, 3, 4, 5, 6, 7), []int{0, 1, 2, 3, 4, 5, 6}},
		{legsBetween(7, 6, 5, 4, 3, 2, 1, 0), []int{0, 1, 2, 3, 4, 5, 6}}, {legsBetween(3, 6, 0, 7, 2), []int{0, 1, 2, 3}},
		{joined([2]int{1, 0}, [2]int{0, 2}, [2]int{3, 0}, [2]int{0, 4}), []int{0, 1, 2, 3}},
		{joined([2]int{6, 5}, [2]int{4, 6}, [2]int{6, 3}, [2]int{3, 0}, [2]int{1, 0}), []int{0, 1, 2, 3, 4}},
		// Beside loops that hang apart.
		{joined([2]int{5, 6}, [2]int{0, 2}, [2]int{6, 5}), []int{1}}, {joined([2]int{1, 2}, [2]int{2, 3}, [2]int{3, 1}, [2]int{0, 4}, [2]int{5, 4}), []int{3, 4}},
	}
	for _, c := range cases {
		checkTreeCount(t, c.legs, 1)
		checkExact(t, c.legs, c.placed...)
		depth, _ := impl.DepthOf(c.legs)
		checkAdjustedDepth(t, c.legs, fraction(depth, 1))
		for _, axis := range axes {
			coords := make([]int, impl.MaxStations)
			for station := range coords {
				place, _ := impl.PlaceOf(c.legs, station)
				coords[station] = ruledMeasure(place, axis)
			}
			checkAxis(t, c.legs, axis, coords, 1)
			checkSquareSum(t, c.legs, axis, fraction(0, 1))
			for _, leg := range c.placed {
				checkResidual(t, c.legs, axis, leg, fraction(0, 1))
			}
			checkLargest(t, c.legs, axis, append(c.placed, 0)[0], len(c.placed) > 0)
		}
		checkAdjustment(t, c.legs)
	}
}

func TestTreeCountAtKnownLists(t *testing.T) {
	cases := []struct {
		legs []impl.Leg
		want int
	}{
		{legsBetween(0, 1, 0), 2}, {joined([2]int{0, 1}, [2]int{0, 1}), 2}, {joined([2]int{7, 0}, [2]int{7, 0}, [2]int{7, 0}), 3},
		{legsBetween(0, 1, 2, 0), 3}, {legsBetween(3, 4, 0, 3), 3}, {legsBetween(0, 1, 2, 3, 0), 4}, {legsBetween(0, 1, 2, 3, 4, 0), 5},
		{legsBetween(0, 1, 2, 3, 4, 5, 6, 7, 0), 8}, {thereAndBack(impl.MaxLegs), 12},
		// With bridges before, behind and between loops, and with a station that loops share.
		{legsBetween(0, 3, 4, 5, 6, 4), 3}, {legsBetween(0, 1, 2, 0, 3, 4), 3}, {legsBetween(0, 1, 2, 0, 3, 4, 5, 6, 3), 12},
		{legsBetween(0, 1, 2, 0, 3, 4, 0), 9}, {legsBetween(0, 1, 2, 3, 1, 4, 5, 1, 4), 15},
		// Loops that share Legs.
		{legsBetween(0, 1, 2, 0, 3, 1), 8}, {legsBetween(0, 1, 2, 3, 0, 2), 8}, {legsBetween(0, 1, 2, 0, 1), 5}, {legsBetween(0, 1, 2, 3, 4, 5, 0, 3), 15},
		{completeAmong(0, 2, 4, 6), 16}, {completeAmong(0, 1, 2, 3, 4), 125}, {sharedRings, 65},
		// One behind the other.
		{repeatedLegs(2, 4), 8}, {repeatedLegs(2, 7), 64}, {repeatedLegs(3, 5), 81}, {repeatedLegs(4, 4), 64}, {repeatedLegs(6, 3), 36},
		// The most Legs.
		{append(completeAmong(0, 3, 5, 7), completeAmong(0, 3, 5, 7)...), 128}, {cube(), 384}, {moebius(), 392},
		{bipartite([]int{0, 1, 2}, []int{3, 4, 5, 6}), 432}, {bipartite([]int{2, 4, 7}, []int{6, 5, 1, 0}), 432},
		// Legs whose ends are not placed.
		{shaft, 3}, {append(completeAmong(1, 2, 3, 4), joined([2]int{0, 5})...), 1}, {append(completeAmong(4, 5, 6, 7), legsBetween(0, 1, 2, 0)...), 3},
		{bipartite([]int{1, 2, 3}, []int{4, 5, 6, 7}), 1},
	}
	for _, c := range cases {
		checkTreeCount(t, c.legs, c.want)
		checkAdjustment(t, c.legs)
	}
}

// TestAdjustAxisAtTheLimits has the longest Legs along an axis, up and down, in all directions
// of the loops.
func TestAdjustAxisAtTheLimits(t *testing.T) {
	straight := []struct {
		axis      int
		way, back func(from, to, tape int) impl.Leg
	}{{impl.AxisEast, eastward, westward}, {impl.AxisNorth, northward, southward}, {impl.AxisUp, upward, downward}}
	lists := [][]impl.Leg{
		legsBetween(0, 1, 2, 3, 4, 5, 6, 7), legsBetween(0, 1, 2, 3, 4, 5, 6, 7, 0), thereAndBack(impl.MaxLegs), repeatedLegs(2, 7),
		cube(), moebius(), bipartite([]int{0, 1, 2}, []int{3, 4, 5, 6}), bipartite([]int{3, 5, 7}, []int{0, 2, 4, 6}),
	}
	n, greatest := numbers{31}, 0
	for _, list := range lists {
		for _, s := range straight {
			for turns := range 20 {
				legs := slices.Clone(list)
				for i, x := range list {
					legs[i] = s.way(x.From, x.To, impl.MaxTape)
					if turns == 1 || turns == 2 && x.From > x.To || turns == 3 && x.From < x.To || turns > 3 && n.next(2) == 1 {
						legs[i] = s.back(x.From, x.To, impl.MaxTape)
					}
				}
				for _, coord := range checkAdjustment(t, legs).coords(s.axis) {
					greatest = max(greatest, coord, -coord)
				}
			}
		}
	}
	if greatest < 200000 {
		t.Error("no coordinate beyond", greatest)
	}
	longest := []impl.Leg{}
	for station := range impl.MaxStations - 1 {
		longest = append(longest, upward(station, station+1, 500))
	}
	checkAxis(t, longest, impl.AxisUp, []int{0, 500, 1000, 1500, 2000, 2500, 3000, 3500}, 1)
	checkAdjustedDepth(t, longest, fraction(3500, 1))
	// All Legs of a loop up: the residuals are the measures. One of twelve down: it has the most.
	checkAxis(t, append(longest, upward(7, 0, 500)), impl.AxisUp, make([]int, 8), 8)
	checkSquareSum(t, append(longest, upward(7, 0, 500)), impl.AxisUp, fraction(2000000, 1))
	twelve := append(slices.Repeat([]impl.Leg{eastward(0, 1, 500)}, impl.MaxLegs-1), westward(0, 1, 500))
	checkAxis(t, twelve, impl.AxisEast, []int{0, 5000, 0, 0, 0, 0, 0, 0}, 12)
	checkResidual(t, twelve, impl.AxisEast, 0, fraction(250, 3))
	checkResidual(t, twelve, impl.AxisEast, 11, fraction(-2750, 3))
	checkSquareSum(t, twelve, impl.AxisEast, fraction(2750000, 3))
	checkLargest(t, twelve, impl.AxisEast, 11, true)
}

func TestIsBalancedAtKnownCoords(t *testing.T) {
	theta := []impl.Leg{upward(0, 1, 10), upward(1, 2, 20), downward(2, 0, 32), upward(0, 3, 16), downward(3, 1, 3)}
	cases := []struct {
		legs   []impl.Leg
		coords []int
		den    int
		want   bool
	}{
		// As they are told, in other terms, and with those of stations that are not placed.
		{theta, []int{0, 90, 253, 121, 0, 0, 0, 0}, 8, true}, {theta, []int{0, 900, 2530, 1210, 0, 0, 0, 0}, 80, true},
		{theta, []int{0, 90, 253, 121, 1, -7, 100000000, -100000000}, 8, true},
		{[]impl.Leg{upward(0, 2, 10), upward(0, 2, 12)}, []int{0, 5, 22, 0, 0, 0, 0, 9}, 2, true}, {[]impl.Leg{upward(0, 2, 10), upward(0, 2, 12)}, []int{0, 5, 11, 0, 0, 0, 0, 9}, 1, true},
		// Other terms, another station 0, all stations moved alike, and one that is another.
		{theta, []int{0, 90, 253, 121, 0, 0, 0, 0}, 7, false}, {theta, []int{1, 90, 253, 121, 0, 0, 0, 0}, 8, false},
		{theta, []int{1, 91, 254, 122, 1, 1, 1, 1}, 8, false}, {theta, []int{8, 98, 261, 129, 0, 0, 0, 0}, 8, false},
		{theta, []int{0, 90, 254, 121, 0, 0, 0, 0}, 8, false}, {theta, []int{0, 89, 253, 121, 0, 0, 0, 0}, 8, false}, {theta, []int{0, -90, -253, -121, 0, 0, 0, 0}, 8, false},
		// The places are balanced only without loops.
		{theta, []int{0, 10, 30, 16, 0, 0, 0, 0}, 1, false}, {theta[:2], []int{0, 10, 30, 16, 0, 0, 0, 0}, 1, true}, {theta[:2], []int{0, 10, 31, 16, 0, 0, 0, 0}, 1, false},
		{nil, []int{0, 0, 0, 0, 0, 0, 0, 0}, 1, true}, {nil, []int{0, 1, 2, 3, 4, 5, 6, -7}, 3, true}, {nil, []int{1, 0, 0, 0, 0, 0, 0, 0}, 1, false}, {nil, []int{-1, 0, 0, 0, 0, 0, 0, 0}, 100000, false},
		{joined([2]int{4, 5}, [2]int{5, 4}), []int{0, 1, 2, 3, 4, 5, 6, -7}, 3, true}, {joined([2]int{4, 5}, [2]int{5, 4}), []int{2, 0, 0, 0, 0, 0, 0, 0}, 3, false},
		// Numbers and den at their limits.
		{[]impl.Leg{upward(0, 1, 500), upward(1, 2, 500)}, []int{0, 50000000, 100000000, 0, 0, 0, 0, 0}, 100000, true},
		{[]impl.Leg{downward(0, 1, 500), downward(1, 2, 500)}, []int{0, -50000000, -100000000, 0, 0, 0, 0, 0}, 100000, true},
		{[]impl.Leg{downward(0, 1, 500), downward(1, 2, 500)}, []int{0, -50000000, 100000000, 0, 0, 0, 0, 0}, 100000, false},
		{[]impl.Leg{upward(0, 1, 500), upward(1, 2, 500)}, []int{0, 50000000, 99999999, 0, 0, 0, 0, 0}, 100000, false},
		{[]impl.Leg{upward(0, 1, 500), upward(1, 2, 500)}, []int{0, 100000000, -100000000, 0, 0, 0, 0, 0}, 1, false},
		{theta, []int{0, 1125000, 3162500, 1512500, 0, 0, 0, 0}, 100000, true}, {theta, []int{0, 1125000, 3162500, 1512500, 0, 0, 0, 0}, 99999, false},
		{thereAndBack(2), []int{100000000, 100000000, -100000000, 0, 0, 0, 0, 0}, 1, false},
	}
	for _, c := range cases {
		checkBalanced(t, c.legs, impl.AxisUp, c.coords, c.den, c.want)
	}
	// What is balanced on one axis is not so on another one.
	checkBalanced(t, theta, impl.AxisEast, []int{0, 90, 253, 121, 0, 0, 0, 0}, 8, false)
	checkBalanced(t, theta, impl.AxisNorth, []int{0, 0, 0, 0, 5, 0, 0, 0}, 8, true)
}

func TestIsBalancedRefuses(t *testing.T) {
	ring, zeros := legsBetween(0, 1, 2, 0), make([]int, 1000)
	for _, legs := range [][]impl.Leg{nil, ring, shaft, thereAndBack(impl.MaxLegs), cube()} {
		coords, den, _ := impl.AdjustAxis(legs, impl.AxisUp)
		checkBalanced(t, legs, impl.AxisUp, coords, den, true)
		for _, count := range []int{0, 1, 2, 6, 7, 9, 16, 1000} {
			checkNoBalance(t, legs, impl.AxisUp, append(slices.Clone(coords), zeros...)[:count], den)
		}
		checkNoBalance(t, legs, impl.AxisUp, nil, den)
		for _, bad := range []int{0, -1, -den - 1, 100001, -100000, 1 << 40, math.MaxInt, math.MinInt} {
			checkNoBalance(t, legs, impl.AxisUp, coords, bad)
		}
		for station := range coords {
			for _, bad := range []int{100000001, -100000001, 1 << 40, math.MaxInt, math.MinInt} {
				changed := slices.Clone(coords)
				changed[station] = bad
				checkNoBalance(t, legs, impl.AxisUp, changed, den)
			}
		}
	}
	// Elements behind the length are not read.
	checkBalanced(t, nil, impl.AxisUp, append(make([]int, 8), math.MaxInt)[:8], 1, true)
	for i := range spoiltLegLists() {
		checkNoBalance(t, spoiltLegLists()[i], impl.AxisUp, zeros[:8], 1)
	}
}

func TestExactLegsAtKnownLists(t *testing.T) {
	// Two Legs that differ on one axis only, on none, and on all.
	for _, pair := range [][2]impl.Leg{
		{eastward(0, 1, 100), eastward(0, 1, 110)}, {northward(0, 1, 100), northward(0, 1, 110)}, {upward(0, 1, 100), upward(0, 1, 110)},
		{eastward(0, 1, 100), westward(0, 1, 100)}, {northward(0, 1, 100), northward(1, 0, 100)}, {upward(0, 1, 1), upward(0, 1, 2)},
		{{From: 0, To: 1, Tape: 300, Compass: 30, Slope: 20}, {From: 1, To: 0, Tape: 310, Compass: 209, Slope: -23}},
	} {
		checkExact(t, pair[:])
		checkExact(t, []impl.Leg{eastward(2, 1, 5), pair[0], eastward(0, 3, 7), pair[1], upward(6, 7, 1)}, 0, 2)
		checkExact(t, []impl.Leg{pair[0], pair[0]}, 0, 1)
	}
	cases := []struct {
		legs []impl.Leg
		want []int
	}{
		{nil, nil}, {legsBetween(4, 5, 6, 4), nil}, {legsBetween(0, 1, 2, 3), []int{0, 1, 2}}, {shaft, []int{0, 1, 2}},
		{[]impl.Leg{upward(0, 1, 70), downward(1, 0, 70), upward(0, 1, 70)}, []int{0, 1, 2}},
		{[]impl.Leg{eastward(0, 1, 30), northward(1, 2, 40), westward(2, 3, 30), southward(3, 0, 40)}, []int{0, 1, 2, 3}},
		{[]impl.Leg{eastward(0, 1, 30), northward(1, 2, 40), westward(2, 3, 30), southward(3, 0, 41)}, nil},
		// A loop that closes beside one that does not, and a Leg that is exact in such a one.
		{[]impl.Leg{eastward(0, 1, 30), westward(1, 0, 30), upward(0, 2, 8), upward(0, 2, 9)}, []int{0, 1}},
		{[]impl.Leg{upward(0, 1, 10), upward(0, 1, 12), upward(0, 1, 11)}, []int{2}}, {[]impl.Leg{upward(0, 1, 11), upward(0, 1, 10), downward(1, 0, 12)}, []int{0}},
		{[]impl.Leg{upward(0, 1, 10), upward(1, 2, 20), downward(2, 0, 31), upward(0, 3, 16), downward(3, 1, 3)}, []int{1, 2}},
		{[]impl.Leg{upward(0, 1, 10), upward(1, 2, 20), downward(2, 0, 32), upward(0, 3, 16), downward(3, 1, 3)}, nil},
		{[]impl.Leg{upward(0, 1, 10), upward(1, 2, 5), upward(0, 2, 20), upward(1, 3, 10), upward(2, 3, 5), upward(0, 3, 20)}, []int{3}},
	}
	for _, c := range cases {
		checkExact(t, c.legs, c.want...)
		checkAdjustment(t, c.legs)
	}
}

func TestAdjustedDepthAtKnownLists(t *testing.T) {
	cases := []struct {
		legs []impl.Leg
		want *big.Rat
	}{
		{nil, fraction(0, 1)}, {legsBetween(4, 5, 6, 4), fraction(0, 1)}, {[]impl.Leg{eastward(0, 1, 70)}, fraction(0, 1)},
		// All stations above the station 0, all below it, and some on both sides.
		{[]impl.Leg{upward(0, 1, 100), upward(1, 2, 20)}, fraction(120, 1)}, {[]impl.Leg{downward(0, 1, 100), downward(1, 2, 20)}, fraction(120, 1)},
		{[]impl.Leg{upward(0, 1, 100), downward(0, 2, 20)}, fraction(120, 1)}, {[]impl.Leg{upward(1, 0, 100), upward(2, 1, 20), downward(7, 6, 400)}, fraction(120, 1)},
		{[]impl.Leg{upward(0, 1, 100), upward(0, 1, 105)}, fraction(205, 2)}, {[]impl.Leg{upward(0, 1, 100), upward(0, 1, 106)}, fraction(103, 1)},
		{[]impl.Leg{upward(0, 1, 100), upward(0, 1, 105), downward(1, 2, 300), downward(2, 1, 7)}, fraction(293, 2)},
		{[]impl.Leg{upward(0, 1, 10), upward(0, 1, 11), upward(0, 1, 13), downward(0, 2, 7), downward(2, 0, 4)}, fraction(77, 6)},
		{[]impl.Leg{upward(0, 1, 10), upward(0, 1, 12), upward(0, 1, 14), downward(0, 2, 7), upward(2, 0, 5)}, fraction(18, 1)},
		{[]impl.Leg{upward(0, 1, 10), downward(0, 1, 10)}, fraction(0, 1)}, {shaft, fraction(100, 1)},
	}
	for _, c := range cases {
		checkAdjustedDepth(t, c.legs, c.want)
		checkAdjustment(t, c.legs)
	}
}

func TestLargestResidualAtKnownLists(t *testing.T) {
	apart := upward(6, 7, 30)
	cases := []struct {
		legs    []impl.Leg
		want    int
		isThere bool
	}{
		{nil, 0, false}, {[]impl.Leg{apart}, 0, false}, {legsBetween(4, 5, 6, 4), 0, false}, {[]impl.Leg{upward(0, 1, 5)}, 0, true}, {[]impl.Leg{apart, upward(0, 1, 5), upward(1, 2, 5)}, 1, true},
		// The greatest absolute value: below 0, above it, and of Legs in opposite directions.
		{[]impl.Leg{upward(0, 1, 110), upward(0, 1, 111), upward(0, 1, 100)}, 2, true}, {[]impl.Leg{upward(0, 1, 101), upward(0, 1, 111), upward(0, 1, 100)}, 1, true},
		{[]impl.Leg{upward(0, 1, 110), upward(0, 1, 111), downward(1, 0, 100)}, 2, true}, {[]impl.Leg{upward(0, 1, 101), downward(1, 0, 111), upward(0, 1, 100)}, 1, true},
		// Several ones of the same absolute value.
		{[]impl.Leg{upward(0, 1, 100), upward(0, 1, 110)}, 0, true}, {[]impl.Leg{upward(0, 1, 110), upward(0, 1, 100)}, 0, true}, {[]impl.Leg{upward(0, 1, 110), downward(1, 0, 100)}, 0, true},
		{[]impl.Leg{upward(0, 1, 105), upward(0, 1, 110), upward(0, 1, 100)}, 1, true}, {[]impl.Leg{apart, upward(0, 1, 105), upward(0, 1, 100), upward(0, 1, 110)}, 2, true},
		{[]impl.Leg{upward(0, 1, 70), upward(0, 1, 70), upward(0, 1, 70)}, 0, true}, {[]impl.Leg{upward(0, 1, 70), upward(1, 2, 10), upward(2, 3, 20), downward(3, 1, 33)}, 1, true},
		// A loop with more Legs has smaller residuals.
		{[]impl.Leg{upward(0, 1, 70), upward(1, 2, 10), downward(2, 0, 60), upward(0, 3, 5), upward(0, 3, 19)}, 3, true}, {[]impl.Leg{upward(0, 1, 70), upward(1, 2, 10), downward(2, 0, 59), upward(0, 3, 5), upward(0, 3, 19)}, 0, true},
		{shaft, 3, true},
	}
	for _, c := range cases {
		checkLargest(t, c.legs, impl.AxisUp, c.want, c.isThere)
		if c.isThere && !slices.Equal(c.legs, shaft) {
			// All Legs are upright: on the other axes, the first of those that are placed is told.
			checkLargest(t, c.legs, impl.AxisEast, slices.IndexFunc(c.legs, func(x impl.Leg) bool { return x != apart }), true)
		}
		checkAdjustment(t, c.legs)
	}
}

func TestOtherAxesAreRefused(t *testing.T) {
	for _, legs := range [][]impl.Leg{nil, {}, legsBetween(0, 1, 2, 3), legsBetween(4, 5, 6, 4), shaft, sharedRings, cube()} {
		checkAdjustment(t, legs)
		for _, axis := range badAxes {
			checkNoAxis(t, legs, axis)
		}
	}
}

func TestOtherLegsHaveNoResidual(t *testing.T) {
	for _, legs := range [][]impl.Leg{nil, {}, legsBetween(0, 1, 2, 3), legsBetween(4, 5, 6, 4), shaft, sharedRings, cube()} {
		for _, leg := range []int{-1, -2, -len(legs) - 1, len(legs), len(legs) + 1, impl.MaxLegs, impl.MaxLegs + 1, math.MaxInt, math.MinInt} {
			for _, axis := range axes {
				checkNoResidual(t, legs, axis, leg)
			}
		}
	}
	// Legs whose ends are not placed.
	for _, axis := range axes {
		checkNoResidual(t, shaft, axis, 4)
		checkNoResidual(t, shaft, axis, 7)
		for leg := range 3 {
			checkNoResidual(t, legsBetween(4, 5, 6, 4), axis, leg)
		}
	}
}

func TestAdjustedCoordinatesAreBalanced(t *testing.T) {
	check := func(legs []impl.Leg) map[string]bool { return kindsOfAdjustments(checkAdjustment(t, legs)) }
	checkSample(t, 32, 1200, check, "one tree", "two trees", "many trees", "apart", "bridge and loop", "fraction", "lower terms",
		"below 0", "above 0", "exact", "several largest")
}

// TestAdjustmentOfStraightLegs has short Legs along the axes, whose residuals are often 0, or
// the same.
func TestAdjustmentOfStraightLegs(t *testing.T) {
	check := func(legs []impl.Leg) map[string]bool {
		straight := slices.Clone(legs)
		for i, x := range legs {
			straight[i].Tape, straight[i].Compass, straight[i].Slope = 1+x.Tape%3, x.Compass/90*90, max(-90, min(x.Slope/40*90, 90))
		}
		return kindsOfAdjustments(checkAdjustment(t, straight))
	}
	checkSample(t, 35, 800, check, "exact", "exact on one axis", "exact on two axes", "several largest", "fraction", "lower terms", "below 0")
}

func kindsOfAdjustments(a ruledAdjustment) map[string]bool {
	kinds := map[string]bool{
		"one tree": a.trees == 1, "two trees": a.trees == 2, "many trees": a.trees > 40,
		"apart": len(a.net.apart) > 0, "exact": len(a.exact()) > 0,
	}
	for _, leg := range a.placed {
		kinds["bridge and loop"] = kinds["bridge and loop"] || a.trees > 1 && ruledBridge(a.legs, leg)
		zeros := 0
		for _, axis := range axes {
			residual := a.residual(leg, axis)
			den := int(fraction(residual, a.trees).Denom().Int64())
			if residual == 0 {
				zeros++
			}
			largest := a.residual(a.largest(axis), axis)
			legKinds := map[string]bool{
				"fraction": den > 1, "lower terms": den > 1 && den < a.trees, "below 0": residual < 0, "above 0": residual > 0,
				"several largest": leg != a.largest(axis) && residual != 0 && (residual == largest || residual == -largest),
			}
			for kind, isSo := range legKinds {
				kinds[kind] = kinds[kind] || isSo
			}
		}
		kinds["exact on one axis"] = kinds["exact on one axis"] || zeros == 1
		kinds["exact on two axes"] = kinds["exact on two axes"] || zeros == 2
	}
	return kinds
}

func TestAdjustmentOfAllShortLists(t *testing.T) {
	for legs := range allShortLists {
		checkAdjustment(t, legs)
	}
}

func TestAdjustmentOfTheMostLegs(t *testing.T) {
	n := numbers{33}
	for range 60 {
		legs := n.legsAmong(impl.MaxStations, impl.MaxLegs+1)
		checkAdjustment(t, legs[:impl.MaxLegs])
		checkNoAdjustment(t, legs)
	}
	// Between all stations, with measures of all kinds, and with one Leg too many.
	for _, list := range [][]impl.Leg{cube(), moebius(), legsBetween(7, 6, 5, 4, 3, 2, 1, 0, 2, 4, 6, 0, 7), thereAndBack(impl.MaxLegs)} {
		checkAdjustment(t, list)
		for range 10 {
			legs := slices.Clone(list)
			for i, x := range list {
				legs[i] = n.leg()
				legs[i].From, legs[i].To = x.From, x.To
			}
			checkAdjustment(t, legs)
			checkNoAdjustment(t, append(legs, legs[n.next(len(legs))]))
		}
	}
	checkNoAdjustment(t, thereAndBack(impl.MaxLegs+1))
	checkNoAdjustment(t, thereAndBack(1000))
	checkNoAdjustment(t, slices.Repeat(joined([2]int{5, 6}), impl.MaxLegs+1))
}

func TestListsThatAreNoLegsHaveNoAdjustment(t *testing.T) {
	checkAdjustment(t, legsBetween(0, 1, 2, 3, 0))
	for _, legs := range spoiltLegLists() {
		checkNoAdjustment(t, legs)
	}
}

// TestAdjustmentDoesNotDependOnOrderAndDirection: which Legs are tree legs and which closing
// legs, and from where they were measured, makes no difference.
func TestAdjustmentDoesNotDependOnOrderAndDirection(t *testing.T) {
	n := numbers{34}
	for range 300 {
		legs := n.legsAmong(n.within(2, impl.MaxStations), n.within(1, impl.MaxLegs))
		moved := slices.Clone(legs)
		k, m := n.next(len(legs)), n.next(len(legs))
		moved[k], moved[m] = moved[m], moved[k]
		moved[k], _ = impl.ReverseLeg(moved[k])
		for _, axis := range axes {
			coords, trees, _ := impl.AdjustAxis(legs, axis)
			checkAxis(t, moved, axis, coords, trees)
			num, den, ok := impl.ResidualOf(legs, axis, m)
			if ok {
				checkResidual(t, moved, axis, k, fraction(-num, den))
			} else {
				checkNoResidual(t, moved, axis, k)
			}
		}
	}
}

func TestAdjustmentFunctionsReturnForAllArguments(t *testing.T) {
	for i, x := range oddLegs() {
		list := []impl.Leg{eastward(0, 1, 20), x, northward(1, 7, 20), upward(7, 0, 20)}[:2+i%3]
		leg, axis, den := legNumbers[i%len(legNumbers)], legNumbers[i%13], legNumbers[i%11]
		coords := []int{0, axis, leg, den, 0, 0, 0, axis}[:8-i%2]
		isAxis := ruledLeg(x) && axis >= 0 && axis <= 2
		isFar := slices.Min(coords) < -100000000 || slices.Max(coords) > 100000000
		if _, ok := impl.IsBalanced(list, axis, coords, den); ok != (isAxis && len(coords) == 8 && !isFar && den >= 1) {
			t.Errorf("IsBalanced(%v, %d, %v, %d): %v", list, axis, coords, den, ok)
		}
		if !isAxis {
			checkNoAxis(t, list, axis)
			checkNoResidual(t, list, axis, leg)
		}
		if !ruledLeg(x) {
			checkNoAdjustment(t, list)
			continue
		}
		want := checkAdjustment(t, list)
		if isAxis && !slices.Contains(want.placed, leg) {
			checkNoResidual(t, list, axis, leg)
		}
	}
}

func TestAdjustmentFunctionsLeaveTheirLists(t *testing.T) {
	// Behind the length of a list there is something that is neither read nor written.
	legs := append(slices.Clone(shaft), eastward(0, 5, 500), impl.Leg{From: -7, To: 77, Tape: 777})
	before := slices.Clone(legs)
	checkAdjustment(t, legs[:len(shaft)])
	checkAdjustment(t, legs[:0])
	checkNoAdjustment(t, legs)
	full := append(cube(), impl.Leg{})[:impl.MaxLegs]
	checkAdjustment(t, full)
	if !slices.Equal(legs, before) || !slices.Equal(full, cube()) || full[:impl.MaxLegs+1][impl.MaxLegs] != (impl.Leg{}) {
		t.Error("a list was modified", legs, full)
	}
	coords := []int{0, 300, 300, -100, -50, 300, 4, 5, math.MaxInt}
	checkBalanced(t, shaft, impl.AxisEast, coords[:8], 3, true)
	checkBalanced(t, shaft, impl.AxisEast, coords[:8], 4, false)
	checkNoBalance(t, shaft, impl.AxisEast, coords, 3)
	if !slices.Equal(coords, []int{0, 300, 300, -100, -50, 300, 4, 5, math.MaxInt}) {
		t.Error("the coordinates were modified", coords)
	}
}

// TestResultsOfAdjustmentFunctionsAreTheirOwn writes to all results and behind their lengths,
// and asks again.
func TestResultsOfAdjustmentFunctionsAreTheirOwn(t *testing.T) {
	legs := slices.Clone(shaft)
	for range 2 {
		coords, trees, one := impl.AdjustAxis(legs, impl.AxisEast)
		again, _, _ := impl.AdjustAxis(legs, impl.AxisEast)
		exact, two := impl.ExactLegs(legs)
		checkIndices(t, "AdjustAxis", legs, coords, one && trees == 3, []int{0, 300, 300, -100, -50, 300, 0, 0})
		checkIndices(t, "ExactLegs", legs, exact, two, []int{0, 1, 2})
		for _, list := range [][]int{coords, exact} {
			clear(list)
			clear(append(list, -1, -2, -3))
		}
		checkIndices(t, "AdjustAxis", legs, again, one, []int{0, 300, 300, -100, -50, 300, 0, 0})
		if !slices.Equal(legs, shaft) {
			t.Error("a result shares memory with the list", legs)
		}
	}
}
