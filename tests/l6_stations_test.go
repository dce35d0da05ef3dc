package tests

import (
	"math"
	"slices"
	"testing"

	"loop.example/g00933/impl"
)

// ruledNetwork is what the document's words tell of some Legs; apart has the indices of the Legs
// that hang apart from the station 0.
type ruledNetwork struct {
	places               map[int]impl.Shift
	tree, closing, apart []int
	turns                int
}

func plus(a, b impl.Shift) impl.Shift {
	return impl.Shift{East: a.East + b.East, North: a.North + b.North, Up: a.Up + b.Up}
}

func ruledNetworkOf(legs []impl.Leg) ruledNetwork {
	net := ruledNetwork{places: map[int]impl.Shift{0: {}}}
	for before := 0; before < len(net.places); net.turns++ {
		before = len(net.places)
		for i, x := range legs {
			from, one := net.places[x.From]
			to, two := net.places[x.To]
			if one && !two {
				net.places[x.To], net.tree = plus(from, ruledShift(x)), append(net.tree, i)
			} else if two && !one {
				net.places[x.From], net.tree = plus(to, opposite(ruledShift(x))), append(net.tree, i)
			}
		}
	}
	slices.Sort(net.tree)
	for i, x := range legs {
		_, one := net.places[x.From]
		_, two := net.places[x.To]
		if !one && !two {
			net.apart = append(net.apart, i)
		} else if !slices.Contains(net.tree, i) {
			net.closing = append(net.closing, i)
		}
	}
	return net
}

func (net ruledNetwork) placed() []int {
	stations := []int{}
	for station := range impl.MaxStations {
		if _, ok := net.places[station]; ok {
			stations = append(stations, station)
		}
	}
	return stations
}

// ups are those of the placed stations, in ascending order of station.
func (net ruledNetwork) ups() []int {
	list := []int{}
	for _, station := range net.placed() {
		list = append(list, net.places[station].Up)
	}
	return list
}

// length compares squares: the whole numbers are few enough to be tried one by one.
func (net ruledNetwork) length(a, b int) int {
	way, n := plus(net.places[a], opposite(net.places[b])), 0
	for (n+1)*(n+1) <= way.East*way.East+way.North*way.North+way.Up*way.Up {
		n++
	}
	return n
}

func (net ruledNetwork) within(station, distance int) []int {
	near := []int{}
	for _, other := range net.placed() {
		if net.length(station, other) <= distance {
			near = append(near, other)
		}
	}
	return near
}

// extent sorts the coordinates of all places, each direction for itself.
func (net ruledNetwork) extent() (impl.Shift, impl.Shift) {
	easts, norths, ups := []int{}, []int{}, []int{}
	for _, place := range net.places {
		easts, norths, ups = append(easts, place.East), append(norths, place.North), append(ups, place.Up)
	}
	least := impl.Shift{East: slices.Min(easts), North: slices.Min(norths), Up: slices.Min(ups)}
	return least, impl.Shift{East: slices.Max(easts), North: slices.Max(norths), Up: slices.Max(ups)}
}

func checkIndices(t *testing.T, call string, legs []impl.Leg, got []int, ok bool, want []int) {
	t.Helper()
	if !ok || !slices.Equal(got, want) {
		t.Errorf("%s(%v) = %v, %v, not %v", call, legs, got, ok, want)
	}
}

func checkPlaced(t *testing.T, legs []impl.Leg, want ...int) {
	t.Helper()
	got, ok := impl.PlacedStations(legs)
	checkIndices(t, "PlacedStations", legs, got, ok, want)
}

func checkTree(t *testing.T, legs []impl.Leg, want ...int) {
	t.Helper()
	got, ok := impl.TreeLegs(legs)
	checkIndices(t, "TreeLegs", legs, got, ok, want)
}

func checkClosing(t *testing.T, legs []impl.Leg, want ...int) {
	t.Helper()
	got, ok := impl.ClosingLegs(legs)
	checkIndices(t, "ClosingLegs", legs, got, ok, want)
}

func checkPlace(t *testing.T, legs []impl.Leg, station int, want impl.Shift, isThere bool) {
	t.Helper()
	if place, ok := impl.PlaceOf(legs, station); ok != isThere || place != want {
		t.Errorf("PlaceOf(%v, %d) = %v, %v, not %v, %v", legs, station, place, ok, want, isThere)
	}
}

func checkError(t *testing.T, legs []impl.Leg, leg int, want impl.Shift, isThere bool) {
	t.Helper()
	if e, ok := impl.ErrorOf(legs, leg); ok != isThere || e != want {
		t.Errorf("ErrorOf(%v, %d) = %v, %v, not %v, %v", legs, leg, e, ok, want, isThere)
	}
}

func checkDepth(t *testing.T, legs []impl.Leg, want int) {
	t.Helper()
	if n, ok := impl.DepthOf(legs); !ok || n != want {
		t.Errorf("DepthOf(%v) = %d, %v, not %d", legs, n, ok, want)
	}
}

func checkExtent(t *testing.T, legs []impl.Leg, least, greatest impl.Shift) {
	t.Helper()
	if a, b, ok := impl.ExtentOf(legs); !ok || a != least || b != greatest {
		t.Errorf("ExtentOf(%v) = %v, %v, %v, not %v, %v", legs, a, b, ok, least, greatest)
	}
}

func checkDeepest(t *testing.T, legs []impl.Leg, want int) {
	t.Helper()
	if station, ok := impl.DeepestStation(legs); !ok || station != want {
		t.Errorf("DeepestStation(%v) = %d, %v, not %d", legs, station, ok, want)
	}
}

func checkWithin(t *testing.T, legs []impl.Leg, station, distance int, want ...int) {
	t.Helper()
	if got, ok := impl.StationsWithin(legs, station, distance); !ok || !slices.Equal(got, want) {
		t.Errorf("StationsWithin(%v, %d, %d) = %v, %v, not %v", legs, station, distance, got, ok, want)
	}
}

func checkNoneWithin(t *testing.T, legs []impl.Leg, station, distance int) {
	t.Helper()
	if got, ok := impl.StationsWithin(legs, station, distance); ok || len(got) != 0 {
		t.Errorf("StationsWithin(%v, %d, %d) = %v, %v", legs, station, distance, got, ok)
	}
}

// checkNetwork checks all functions at Legs against the document's words.
func checkNetwork(t *testing.T, legs []impl.Leg) ruledNetwork {
	t.Helper()
	net := ruledNetworkOf(legs)
	checkPlaced(t, legs, net.placed()...)
	checkTree(t, legs, net.tree...)
	checkClosing(t, legs, net.closing...)
	checkErrors(t, legs, net)
	least, greatest := net.extent()
	checkExtent(t, legs, least, greatest)
	checkDepth(t, legs, greatest.Up-least.Up)
	checkDeepest(t, legs, net.placed()[slices.Index(net.ups(), least.Up)])
	for station := -1; station <= impl.MaxStations; station++ {
		place, isThere := net.places[station]
		checkPlace(t, legs, station, place, isThere)
		if isThere {
			checkDistances(t, legs, net, station)
		} else {
			checkNoneWithin(t, legs, station, 100)
		}
	}
	return net
}

// checkErrors also counts: each tree leg places one station, and the first one needs none.
func checkErrors(t *testing.T, legs []impl.Leg, net ruledNetwork) {
	t.Helper()
	for _, leg := range net.tree {
		checkError(t, legs, leg, impl.Shift{}, true)
	}
	for _, leg := range net.closing {
		x := legs[leg]
		between := plus(net.places[x.To], opposite(net.places[x.From]))
		checkError(t, legs, leg, plus(ruledShift(x), opposite(between)), true)
	}
	for _, leg := range append(net.apart, -1, len(legs), len(legs)+1) {
		checkError(t, legs, leg, impl.Shift{}, false)
	}
	if len(net.tree) != len(net.places)-1 || len(net.tree)+len(net.closing)+len(net.apart) != len(legs) {
		t.Errorf("%v: %v, %v, %v for %d stations", legs, net.tree, net.closing, net.apart, len(net.places))
	}
}

// checkDistances checks the distances of all placed stations from one, and those one below them.
func checkDistances(t *testing.T, legs []impl.Leg, net ruledNetwork, station int) {
	t.Helper()
	checkWithin(t, legs, station, 0, net.within(station, 0)...)
	checkWithin(t, legs, station, math.MaxInt, net.placed()...)
	checkNoneWithin(t, legs, station, -1)
	for _, other := range net.placed() {
		length := net.length(station, other)
		checkWithin(t, legs, station, length, net.within(station, length)...)
		if length > 0 {
			checkWithin(t, legs, station, length-1, net.within(station, length-1)...)
		}
	}
}

func eastward(from, to, tape int) impl.Leg {
	return impl.Leg{From: from, To: to, Tape: tape, Compass: 90}
}

func westward(from, to, tape int) impl.Leg {
	return impl.Leg{From: from, To: to, Tape: tape, Compass: 270}
}

func northward(from, to, tape int) impl.Leg { return impl.Leg{From: from, To: to, Tape: tape} }

func upward(from, to, tape int) impl.Leg {
	return impl.Leg{From: from, To: to, Tape: tape, Slope: 90}
}

func downward(from, to, tape int) impl.Leg {
	return impl.Leg{From: from, To: to, Tape: tape, Slope: -90}
}

// joined are legs between pairs of stations, each with its own length and directions.
func joined(pairs ...[2]int) []impl.Leg {
	list := []impl.Leg{}
	for i, pair := range pairs {
		list = append(list, impl.Leg{From: pair[0], To: pair[1], Tape: 30 + 17*i, Compass: 101 * i % 360, Slope: 43*i%181 - 90})
	}
	return list
}

// shaft has the places 0, 0, 0; 100, 0, 0; 100, 0, -100; -50, 0, 0; -50, 0, -30; 100, 40, -100
// of the stations 0 to 5, a closing leg, and two Legs that hang apart.
var shaft = []impl.Leg{
	eastward(0, 1, 100), northward(2, 5, 40), downward(1, 2, 100), eastward(3, 0, 50), downward(7, 6, 500),
	upward(4, 3, 30), downward(0, 4, 33), westward(6, 7, 400),
}

func (n *numbers) legsAmong(stations, count int) []impl.Leg {
	list := []impl.Leg{}
	for range count {
		x := n.leg()
		x.From = n.next(stations)
		x.To = (x.From + n.within(1, stations-1)) % stations
		list = append(list, x)
	}
	return list
}

// legsInTwoParts never lead from the stations 0 to 3 to the others, nor back.
func (n *numbers) legsInTwoParts(count int) []impl.Leg {
	list := n.legsAmong(4, count)
	for i := range list {
		if n.next(3) == 0 {
			list[i].From, list[i].To = list[i].From+4, list[i].To+4
		}
	}
	return list
}

func TestTreeAndClosingLegsAtKnownLists(t *testing.T) {
	cases := []struct {
		legs                  []impl.Leg
		placed, tree, closing []int
	}{
		{nil, []int{0}, nil, nil}, {[]impl.Leg{}, []int{0}, nil, nil},
		{joined([2]int{0, 1}), []int{0, 1}, []int{0}, nil}, {joined([2]int{1, 0}), []int{0, 1}, []int{0}, nil},
		{joined([2]int{0, 7}), []int{0, 7}, []int{0}, nil}, {joined([2]int{7, 0}), []int{0, 7}, []int{0}, nil},
		{legsBetween(0, 1, 2, 3), []int{0, 1, 2, 3}, []int{0, 1, 2}, nil}, {legsBetween(3, 2, 1, 0), []int{0, 1, 2, 3}, []int{0, 1, 2}, nil},
		// Legs that hang apart, alone, as a chain, as a ring and beside others.
		{joined([2]int{1, 2}), []int{0}, nil, nil}, {legsBetween(4, 5, 6, 7), []int{0}, nil, nil}, {legsBetween(4, 5, 6, 4), []int{0}, nil, nil},
		{joined([2]int{5, 6}, [2]int{0, 2}, [2]int{6, 5}), []int{0, 2}, []int{1}, nil},
		{joined([2]int{0, 1}, [2]int{5, 6}, [2]int{1, 0}, [2]int{6, 7}, [2]int{7, 5}), []int{0, 1}, []int{0}, []int{2}},
		// Legs that are placed only when the list is gone through again, once or more often.
		{joined([2]int{1, 2}, [2]int{0, 1}), []int{0, 1, 2}, []int{0, 1}, nil}, {joined([2]int{2, 1}, [2]int{1, 0}), []int{0, 1, 2}, []int{0, 1}, nil},
		{joined([2]int{6, 7}, [2]int{5, 6}, [2]int{4, 5}, [2]int{3, 4}, [2]int{2, 3}, [2]int{1, 2}, [2]int{0, 1}), []int{0, 1, 2, 3, 4, 5, 6, 7}, []int{0, 1, 2, 3, 4, 5, 6}, nil},
		{legsBetween(4, 5, 6, 4, 0), []int{0, 4, 5, 6}, []int{0, 1, 3}, []int{2}}, {joined([2]int{5, 6}, [2]int{4, 5}, [2]int{6, 4}, [2]int{4, 0}), []int{0, 4, 5, 6}, []int{1, 2, 3}, []int{0}},
		// Two and more Legs between the same stations.
		{joined([2]int{0, 1}, [2]int{0, 1}), []int{0, 1}, []int{0}, []int{1}}, {joined([2]int{0, 1}, [2]int{1, 0}), []int{0, 1}, []int{0}, []int{1}},
		{joined([2]int{2, 3}, [2]int{3, 2}, [2]int{3, 0}, [2]int{0, 3}), []int{0, 2, 3}, []int{0, 2}, []int{1, 3}},
		{thereAndBack(5), []int{0, 1}, []int{0}, []int{1, 2, 3, 4}},
		// Rings that begin at the station 0, beside it and behind it.
		{legsBetween(0, 1, 2, 0), []int{0, 1, 2}, []int{0, 1}, []int{2}}, {legsBetween(1, 2, 0, 1), []int{0, 1, 2}, []int{1, 2}, []int{0}},
		{legsBetween(2, 0, 1, 2), []int{0, 1, 2}, []int{0, 1}, []int{2}}, {legsBetween(0, 3, 5, 7, 3), []int{0, 3, 5, 7}, []int{0, 1, 2}, []int{3}},
		{legsBetween(0, 1, 2, 0, 3, 4, 0), []int{0, 1, 2, 3, 4}, []int{0, 1, 3, 4}, []int{2, 5}},
		// The list is gone through to its end before it is gone through again.
		{joined([2]int{2, 3}, [2]int{0, 2}, [2]int{0, 3}), []int{0, 2, 3}, []int{1, 2}, []int{0}},
		{joined([2]int{2, 3}, [2]int{1, 2}, [2]int{0, 1}, [2]int{1, 3}), []int{0, 1, 2, 3}, []int{0, 2, 3}, []int{1}},
		{shaft, []int{0, 1, 2, 3, 4, 5}, []int{0, 1, 2, 3, 5}, []int{6}},
	}
	for _, c := range cases {
		checkPlaced(t, c.legs, c.placed...)
		checkTree(t, c.legs, c.tree...)
		checkClosing(t, c.legs, c.closing...)
		checkNetwork(t, c.legs)
	}
}

// TestTheFirstTurnDecides: the Leg between 0 and 3 is gone through before the one from 2 to 3
// has its second turn, and would place the station 3 elsewhere.
func TestTheFirstTurnDecides(t *testing.T) {
	legs := []impl.Leg{northward(2, 3, 10), eastward(0, 2, 20), upward(0, 3, 30)}
	checkPlace(t, legs, 3, impl.Shift{Up: 30}, true)
	checkError(t, legs, 0, impl.Shift{East: 20, North: 10, Up: -30}, true)
	legs = []impl.Leg{northward(2, 3, 10), upward(3, 0, 30), eastward(0, 2, 20)}
	checkPlace(t, legs, 3, impl.Shift{Up: -30}, true)
	checkError(t, legs, 0, impl.Shift{East: 20, North: 10, Up: 30}, true)
}

func TestPlaceOfAtKnownLists(t *testing.T) {
	places := []impl.Shift{{}, {East: 100}, {East: 100, Up: -100}, {East: -50}, {East: -50, Up: -30}, {East: 100, North: 40, Up: -100}}
	for station, place := range places {
		checkPlace(t, shaft, station, place, true)
	}
	checkPlace(t, nil, 0, impl.Shift{}, true)
	checkPlace(t, []impl.Leg{}, 0, impl.Shift{}, true)
	checkPlace(t, legsBetween(4, 5, 6), 0, impl.Shift{}, true)
	// Walked from From to To, and from To to From.
	slanting := impl.Leg{From: 0, To: 7, Tape: 100, Compass: 210, Slope: -30}
	checkPlace(t, []impl.Leg{slanting}, 7, impl.Shift{East: -44, North: -75, Up: -50}, true)
	slanting.From, slanting.To = 7, 0
	checkPlace(t, []impl.Leg{slanting}, 7, impl.Shift{East: 44, North: 75, Up: 50}, true)
	checkPlace(t, []impl.Leg{eastward(2, 1, 7), northward(1, 0, 5)}, 2, impl.Shift{East: -7, North: -5}, true)
	checkPlace(t, []impl.Leg{eastward(2, 1, 7), northward(0, 1, 5)}, 2, impl.Shift{East: -7, North: 5}, true)
	checkPlace(t, []impl.Leg{eastward(1, 2, 7), northward(1, 0, 5)}, 2, impl.Shift{East: 7, North: -5}, true)
}

func TestPlaceOfRefuses(t *testing.T) {
	lists := [][]impl.Leg{nil, {}, legsBetween(4, 5, 6, 4), legsBetween(0, 1, 2, 0), shaft, thereAndBack(impl.MaxLegs)}
	for _, legs := range lists {
		for _, station := range []int{-1, -8, impl.MaxStations, impl.MaxStations + 1, math.MaxInt, math.MinInt} {
			checkPlace(t, legs, station, impl.Shift{}, false)
		}
		// No Leg leads to the station 3, or it hangs apart.
		if net := ruledNetworkOf(legs); len(net.places) < 6 {
			checkPlace(t, legs, 3, impl.Shift{}, false)
			checkPlace(t, legs, 5, impl.Shift{}, false)
		}
	}
	checkPlace(t, shaft, 6, impl.Shift{}, false)
	checkPlace(t, shaft, 7, impl.Shift{}, false)
}

func TestErrorOfAtKnownLists(t *testing.T) {
	cases := []struct {
		legs []impl.Leg
		leg  int
		want impl.Shift
	}{
		{[]impl.Leg{eastward(0, 1, 100), eastward(0, 1, 110)}, 1, impl.Shift{East: 10}},
		{[]impl.Leg{eastward(0, 1, 100), westward(1, 0, 110)}, 1, impl.Shift{East: -10}},
		{[]impl.Leg{eastward(1, 0, 100), eastward(1, 0, 93)}, 1, impl.Shift{East: -7}},
		{[]impl.Leg{eastward(1, 0, 100), westward(0, 1, 93)}, 1, impl.Shift{East: 7}},
		{[]impl.Leg{northward(0, 1, 50), northward(0, 1, 47)}, 1, impl.Shift{North: -3}},
		{[]impl.Leg{upward(0, 1, 50), upward(0, 1, 51)}, 1, impl.Shift{Up: 1}},
		{[]impl.Leg{upward(0, 1, 50), downward(1, 0, 51)}, 1, impl.Shift{Up: -1}},
		// A blunder: read upward, but walked downward.
		{[]impl.Leg{upward(0, 1, 50), upward(1, 0, 50)}, 1, impl.Shift{Up: 100}},
		{[]impl.Leg{eastward(0, 1, 30), northward(1, 2, 40), upward(2, 0, 5)}, 2, impl.Shift{East: 30, North: 40, Up: 5}},
		{[]impl.Leg{eastward(0, 1, 30), northward(1, 2, 40), upward(0, 2, 5)}, 2, impl.Shift{East: -30, North: -40, Up: 5}},
		// A closing leg that fits exactly has no error either.
		{[]impl.Leg{eastward(0, 1, 100), westward(1, 0, 100)}, 1, impl.Shift{}},
		{[]impl.Leg{eastward(0, 1, 30), northward(1, 2, 40), westward(2, 3, 30), northward(0, 3, 40)}, 3, impl.Shift{}},
		{shaft, 0, impl.Shift{}}, {shaft, 1, impl.Shift{}}, {shaft, 5, impl.Shift{}}, {shaft, 6, impl.Shift{East: 50, Up: -3}},
	}
	for _, c := range cases {
		checkError(t, c.legs, c.leg, c.want, true)
		checkNetwork(t, c.legs)
	}
}

func TestErrorOfRefuses(t *testing.T) {
	for _, legs := range [][]impl.Leg{nil, {}, legsBetween(0, 1), legsBetween(0, 1, 2, 0), shaft, thereAndBack(impl.MaxLegs)} {
		for _, leg := range []int{-1, -2, -len(legs), len(legs), len(legs) + 1, impl.MaxLegs, math.MaxInt, math.MinInt} {
			if leg < 0 || leg >= len(legs) {
				checkError(t, legs, leg, impl.Shift{}, false)
			}
		}
	}
	checkError(t, shaft, 4, impl.Shift{}, false)
	checkError(t, shaft, 7, impl.Shift{}, false)
	for leg := range 3 {
		checkError(t, legsBetween(4, 5, 6, 4), leg, impl.Shift{}, false)
	}
}

// checkSample checks lists of all lengths, with few stations, among which rings are common, with
// many ones, and with those that hang apart; it counts the kinds that check tells of the lists.
func checkSample(t *testing.T, seed uint32, count int, check func(legs []impl.Leg) map[string]bool, kinds ...string) {
	t.Helper()
	n, counts := numbers{seed}, map[string]int{}
	for i := range count {
		legs := n.legsAmong(n.within(2, impl.MaxStations), n.within(0, impl.MaxLegs))
		if i%3 == 0 {
			legs = n.legsInTwoParts(n.within(0, impl.MaxLegs))
		}
		for kind, isSo := range check(legs) {
			if isSo {
				counts[kind]++
			}
		}
	}
	for _, kind := range kinds {
		if counts[kind] < 100 {
			t.Errorf("only %d lists of the kind %q", counts[kind], kind)
		}
	}
}

func TestTreeLegsHaveNoError(t *testing.T) {
	check := func(legs []impl.Leg) map[string]bool { return kindsOf(legs, checkNetwork(t, legs)) }
	checkSample(t, 11, 1800, check, "closing", "apart", "all three", "gone through again", "walked back", "twice")
}

func kindsOf(legs []impl.Leg, net ruledNetwork) map[string]bool {
	kinds := map[string]bool{
		"closing":   len(net.closing) > 0,
		"apart":     len(net.apart) > 0,
		"all three": len(net.tree) > 0 && len(net.closing) > 0 && len(net.apart) > 0,
		// The last turn places nothing.
		"gone through again": net.turns > 2,
	}
	for _, leg := range net.tree {
		x := legs[leg]
		kinds["walked back"] = kinds["walked back"] || x.To == 0
		for _, other := range net.closing {
			y := legs[other]
			kinds["twice"] = kinds["twice"] || x.From == y.To && x.To == y.From || x.From == y.From && x.To == y.To
		}
	}
	return kinds
}

// allShortLists yields all lists of up to 4 Legs between the stations 0 to 3.
func allShortLists(yield func([]impl.Leg) bool) {
	pairs := [][2]int{{0, 1}, {0, 2}, {0, 3}, {1, 0}, {1, 2}, {1, 3}, {2, 0}, {2, 1}, {2, 3}, {3, 0}, {3, 1}, {3, 2}}
	lists := 1
	for count := range 5 {
		for number := range lists {
			chosen := [][2]int{}
			for range count {
				chosen = append(chosen, pairs[number%len(pairs)])
				number /= len(pairs)
			}
			if !yield(joined(chosen...)) {
				return
			}
		}
		lists *= len(pairs)
	}
}

func TestAllShortListsOfLegs(t *testing.T) {
	for legs := range allShortLists {
		net := ruledNetworkOf(legs)
		checkPlaced(t, legs, net.placed()...)
		checkTree(t, legs, net.tree...)
		checkClosing(t, legs, net.closing...)
		checkErrors(t, legs, net)
	}
}

// TestReversedLegsPlaceTheSameStations: a tree leg may be walked in either direction, and the
// error of a closing leg is that of the reverse with the opposite sign.
func TestReversedLegsPlaceTheSameStations(t *testing.T) {
	n := numbers{12}
	for range 500 {
		legs := n.legsAmong(n.within(2, impl.MaxStations), n.within(1, impl.MaxLegs))
		net := ruledNetworkOf(legs)
		leg := n.next(len(legs))
		reversed := slices.Clone(legs)
		reversed[leg], _ = impl.ReverseLeg(legs[leg])
		checkTree(t, reversed, net.tree...)
		checkClosing(t, reversed, net.closing...)
		for station, place := range net.places {
			checkPlace(t, reversed, station, place, true)
		}
		e, ok := impl.ErrorOf(legs, leg)
		checkError(t, reversed, leg, opposite(e), ok)
	}
}

func TestDepthAndExtentAtKnownLists(t *testing.T) {
	cases := []struct {
		legs            []impl.Leg
		depth           int
		least, greatest impl.Shift
	}{
		{nil, 0, impl.Shift{}, impl.Shift{}}, {[]impl.Leg{}, 0, impl.Shift{}, impl.Shift{}},
		{[]impl.Leg{eastward(0, 1, 30)}, 0, impl.Shift{}, impl.Shift{East: 30}}, {[]impl.Leg{eastward(1, 0, 30)}, 0, impl.Shift{East: -30}, impl.Shift{}},
		{[]impl.Leg{northward(0, 1, 30)}, 0, impl.Shift{}, impl.Shift{North: 30}}, {[]impl.Leg{northward(1, 0, 30)}, 0, impl.Shift{North: -30}, impl.Shift{}},
		// All above the station 0, all below it, and some of each.
		{[]impl.Leg{upward(0, 1, 70), upward(1, 2, 20)}, 90, impl.Shift{}, impl.Shift{Up: 90}},
		{[]impl.Leg{downward(0, 1, 70), upward(1, 2, 20)}, 70, impl.Shift{Up: -70}, impl.Shift{}},
		{[]impl.Leg{downward(0, 1, 70), upward(0, 2, 20)}, 90, impl.Shift{Up: -70}, impl.Shift{Up: 20}},
		{[]impl.Leg{upward(1, 0, 70), upward(0, 2, 20), downward(2, 3, 5)}, 90, impl.Shift{Up: -70}, impl.Shift{Up: 20}},
		{[]impl.Leg{upward(0, 1, 500), downward(2, 0, 500)}, 500, impl.Shift{}, impl.Shift{Up: 500}},
		// Each direction has its extremes at stations of its own.
		{[]impl.Leg{eastward(0, 1, 1), westward(0, 2, 2), northward(0, 3, 3), northward(4, 0, 4), upward(0, 5, 5), downward(0, 6, 6)}, 11,
			impl.Shift{East: -2, North: -4, Up: -6}, impl.Shift{East: 1, North: 3, Up: 5}},
		// Legs that hang apart do not count, nor do the Shifts of closing legs.
		{legsBetween(4, 5, 6, 4), 0, impl.Shift{}, impl.Shift{}}, {shaft, 100, impl.Shift{East: -50, Up: -100}, impl.Shift{East: 100, North: 40}},
		{[]impl.Leg{upward(0, 1, 10), downward(5, 6, 400), upward(6, 7, 450)}, 10, impl.Shift{}, impl.Shift{Up: 10}},
		{[]impl.Leg{upward(0, 1, 10), upward(0, 1, 90), downward(1, 0, 300)}, 10, impl.Shift{}, impl.Shift{Up: 10}},
	}
	for _, c := range cases {
		checkDepth(t, c.legs, c.depth)
		checkExtent(t, c.legs, c.least, c.greatest)
		checkNetwork(t, c.legs)
	}
}

func TestDeepestStationAtKnownLists(t *testing.T) {
	cases := []struct {
		legs []impl.Leg
		want int
	}{
		{nil, 0}, {[]impl.Leg{}, 0}, {[]impl.Leg{upward(0, 1, 1)}, 0}, {[]impl.Leg{downward(0, 1, 1)}, 1}, {[]impl.Leg{upward(7, 0, 1)}, 7},
		// The smallest number of several, whichever of them is placed first.
		{[]impl.Leg{eastward(0, 1, 9), northward(0, 2, 9)}, 0}, {[]impl.Leg{downward(0, 5, 30), downward(0, 3, 30)}, 3},
		{[]impl.Leg{downward(0, 3, 30), downward(0, 5, 30)}, 3}, {[]impl.Leg{downward(0, 6, 30), eastward(6, 4, 10), northward(4, 2, 10)}, 2},
		{[]impl.Leg{downward(0, 7, 30), downward(0, 1, 29), eastward(7, 6, 1)}, 6}, {[]impl.Leg{upward(0, 1, 20), downward(1, 2, 20)}, 0},
		{[]impl.Leg{downward(0, 1, 20), downward(1, 2, 20), upward(2, 3, 1)}, 2}, {[]impl.Leg{downward(0, 1, 20), upward(1, 2, 19)}, 1},
		// Stations that hang apart do not count.
		{[]impl.Leg{downward(1, 2, 400)}, 0}, {[]impl.Leg{downward(0, 5, 3), downward(1, 2, 400)}, 5}, {shaft, 2},
	}
	for _, c := range cases {
		checkDeepest(t, c.legs, c.want)
		checkNetwork(t, c.legs)
	}
}

func TestStationsWithinAtKnownDistances(t *testing.T) {
	cases := []struct {
		station, distance int
		want              []int
	}{
		// From the station 0, the others are 100, 141, 50, 58 and 146 away, rounded down.
		{0, 0, []int{0}}, {0, 49, []int{0}}, {0, 50, []int{0, 3}}, {0, 57, []int{0, 3}}, {0, 58, []int{0, 3, 4}}, {0, 99, []int{0, 3, 4}},
		{0, 100, []int{0, 1, 3, 4}}, {0, 140, []int{0, 1, 3, 4}}, {0, 141, []int{0, 1, 2, 3, 4}}, {0, 145, []int{0, 1, 2, 3, 4}},
		{0, 146, []int{0, 1, 2, 3, 4, 5}}, {0, 147, []int{0, 1, 2, 3, 4, 5}}, {0, math.MaxInt, []int{0, 1, 2, 3, 4, 5}},
		// From the station 2: 141, 100, 180, 165 and 40.
		{2, 0, []int{2}}, {2, 39, []int{2}}, {2, 40, []int{2, 5}}, {2, 100, []int{1, 2, 5}}, {2, 164, []int{0, 1, 2, 5}},
		{2, 165, []int{0, 1, 2, 4, 5}}, {2, 179, []int{0, 1, 2, 4, 5}}, {2, 180, []int{0, 1, 2, 3, 4, 5}},
		// From the station 4: 58, 152, 165, 30 and 170.
		{4, 29, []int{4}}, {4, 30, []int{3, 4}}, {4, 151, []int{0, 3, 4}}, {4, 152, []int{0, 1, 3, 4}}, {4, 169, []int{0, 1, 2, 3, 4}}, {4, 170, []int{0, 1, 2, 3, 4, 5}},
	}
	for _, c := range cases {
		checkWithin(t, shaft, c.station, c.distance, c.want...)
	}
	checkWithin(t, nil, 0, 0, 0)
	checkWithin(t, []impl.Leg{}, 0, math.MaxInt, 0)
	// Different stations may be at the same place.
	same := []impl.Leg{eastward(0, 1, 9), westward(1, 5, 9), northward(5, 2, 1)}
	checkWithin(t, same, 0, 0, 0, 5)
	checkWithin(t, same, 5, 0, 0, 5)
	checkWithin(t, same, 1, 0, 1)
	checkWithin(t, same, 5, 1, 0, 2, 5)
	// The farthest possible places.
	far := joined([2]int{0, 1}, [2]int{1, 2}, [2]int{2, 3}, [2]int{3, 4}, [2]int{4, 5}, [2]int{5, 6}, [2]int{6, 7})
	for i := range far {
		far[i] = downward(far[i].From, far[i].To, impl.MaxTape)
	}
	checkWithin(t, far, 7, 3499, 1, 2, 3, 4, 5, 6, 7)
	checkWithin(t, far, 7, 3500, 0, 1, 2, 3, 4, 5, 6, 7)
}

func TestStationsWithinRefuses(t *testing.T) {
	for _, legs := range [][]impl.Leg{nil, {}, legsBetween(0, 1, 2, 0), legsBetween(4, 5, 6, 4), shaft, thereAndBack(impl.MaxLegs)} {
		for _, distance := range []int{-1, -2, math.MinInt} {
			for station := -1; station <= impl.MaxStations; station++ {
				checkNoneWithin(t, legs, station, distance)
			}
		}
		// The station 7 is not placed by any of these lists.
		for _, station := range []int{-1, 7, impl.MaxStations, impl.MaxStations + 1, math.MaxInt, math.MinInt} {
			for _, distance := range []int{0, 1, 1000, math.MaxInt} {
				checkNoneWithin(t, legs, station, distance)
			}
		}
	}
	checkNoneWithin(t, shaft, 6, 10)
}

// TestStationsWithinADistanceAreWithinEveryGreaterOne also goes from the one station back to the
// other one.
func TestStationsWithinADistanceAreWithinEveryGreaterOne(t *testing.T) {
	n := numbers{13}
	for range 60 {
		legs := n.legsAmong(n.within(2, impl.MaxStations), n.within(1, impl.MaxLegs))
		placed, _ := impl.PlacedStations(legs)
		for _, station := range placed {
			before := []int{}
			for distance := 0; distance < 4000; distance += n.within(1, 90) {
				near, ok := impl.StationsWithin(legs, station, distance)
				if !ok || !slices.Contains(near, station) || !slices.IsSorted(near) {
					t.Fatalf("StationsWithin(%v, %d, %d) = %v, %v", legs, station, distance, near, ok)
				}
				for _, other := range before {
					if !slices.Contains(near, other) {
						t.Fatalf("%v: %d is no longer within %d of %d", legs, other, distance, station)
					}
				}
				for _, other := range near {
					if back, _ := impl.StationsWithin(legs, other, distance); !slices.Contains(back, station) {
						t.Fatalf("%v: %d is within %d of %d, but not the other way round", legs, other, distance, station)
					}
				}
				before = near
			}
			if !slices.Equal(before, placed) {
				t.Errorf("%v: only %v are within the greatest distance of %d", legs, before, station)
			}
		}
	}
}

func TestNetworksOfTheMostLegs(t *testing.T) {
	n := numbers{14}
	for range 200 {
		legs := n.legsAmong(impl.MaxStations, impl.MaxLegs+1)
		checkNetwork(t, legs[:impl.MaxLegs])
		checkNoNetwork(t, legs)
	}
	// The Leg that would be one too many alone leads to the station 0, or hangs apart.
	for _, pair := range [][2]int{{0, 1}, {6, 7}} {
		legs := append(slices.Repeat(joined([2]int{1, 2}), impl.MaxLegs-1), joined(pair)...)
		checkNetwork(t, legs)
		checkNoNetwork(t, append(legs[:impl.MaxLegs-1:impl.MaxLegs-1], joined([2]int{1, 2}, pair)...))
	}
	checkNetwork(t, thereAndBack(impl.MaxLegs))
	checkNetwork(t, legsBetween(7, 6, 5, 4, 3, 2, 1, 0, 2, 4, 6, 0, 7))
}

// checkNoNetwork checks that no function takes the list, whatever else it is asked for.
func checkNoNetwork(t *testing.T, legs []impl.Leg) {
	t.Helper()
	placed, one := impl.PlacedStations(legs)
	tree, two := impl.TreeLegs(legs)
	closing, three := impl.ClosingLegs(legs)
	if one || two || three || len(placed)+len(tree)+len(closing) != 0 {
		t.Errorf("%v: %v, %v; %v, %v; %v, %v", legs, placed, one, tree, two, closing, three)
	}
	depth, four := impl.DepthOf(legs)
	least, greatest, five := impl.ExtentOf(legs)
	deepest, six := impl.DeepestStation(legs)
	if four || five || six || depth != 0 || least != (impl.Shift{}) || greatest != (impl.Shift{}) || deepest != 0 {
		t.Errorf("%v: %d, %v; %v, %v, %v; %d, %v", legs, depth, four, least, greatest, five, deepest, six)
	}
	for station := -1; station <= impl.MaxStations; station++ {
		checkPlace(t, legs, station, impl.Shift{}, false)
		checkNoneWithin(t, legs, station, 1000)
		checkNoneWithin(t, legs, station, -1)
	}
	for leg := -1; leg <= len(legs); leg++ {
		checkError(t, legs, leg, impl.Shift{}, false)
	}
}

// spoiltLegLists have one invalid Leg: alone, in a ring and at each place of it, behind Legs that
// hang apart, and behind as many as leave room for one.
func spoiltLegLists() [][]impl.Leg {
	ring, lists := legsBetween(0, 1, 2, 3, 0), [][]impl.Leg{}
	for _, x := range spoiltLegs() {
		lists = append(lists, []impl.Leg{x}, append(legsBetween(5, 6, 7), x), append(thereAndBack(impl.MaxLegs-1), x))
		for i := range ring {
			lists = append(lists, slices.Insert(slices.Clone(ring), i, x), slices.Replace(slices.Clone(ring), i, i+1, x))
		}
	}
	for i := range ring {
		list := slices.Clone(ring)
		list[i].Tape = 501
		lists = append(lists, list)
	}
	return lists
}

func TestListsThatAreNoLegsHaveNoNetwork(t *testing.T) {
	checkNetwork(t, legsBetween(0, 1, 2, 3, 0))
	for _, legs := range spoiltLegLists() {
		checkNoNetwork(t, legs)
	}
	checkNoNetwork(t, thereAndBack(1000))
}

func TestNetworkFunctionsReturnForAllArguments(t *testing.T) {
	for i, x := range oddLegs() {
		list := []impl.Leg{eastward(0, 1, 20), x, northward(1, 7, 20)}[:2+i%2]
		leg, number := legNumbers[i%len(legNumbers)], legNumbers[i%13]
		if !ruledLeg(x) {
			_, one := impl.PlacedStations(list)
			_, two := impl.ErrorOf(list, leg)
			_, three := impl.PlaceOf(list, leg)
			_, four := impl.StationsWithin(list, leg, number)
			_, five := impl.StationsWithin(list, 0, number)
			if one || two || three || four || five {
				t.Errorf("%v, %d, %d: %v, %v, %v, %v, %v", list, leg, number, one, two, three, four, five)
			}
			continue
		}
		net := checkNetwork(t, list)
		_, isPlaced := net.places[leg]
		if _, ok := impl.PlaceOf(list, leg); ok != isPlaced {
			t.Errorf("PlaceOf(%v, %d): %v", list, leg, ok)
		}
		if _, ok := impl.ErrorOf(list, leg); ok != (slices.Contains(net.tree, leg) || slices.Contains(net.closing, leg)) {
			t.Errorf("ErrorOf(%v, %d): %v", list, leg, ok)
		}
		if _, ok := impl.StationsWithin(list, leg, number); ok != (isPlaced && number >= 0) {
			t.Errorf("StationsWithin(%v, %d, %d): %v", list, leg, number, ok)
		}
	}
}

func TestNetworkFunctionsLeaveTheirLists(t *testing.T) {
	// Behind the length of a list there are Legs that are neither read nor written.
	legs := append(slices.Clone(shaft), eastward(0, 7, 500), impl.Leg{From: -7, To: 77, Tape: 777})
	before := slices.Clone(legs)
	checkNetwork(t, legs[:len(shaft)])
	checkNetwork(t, legs[:0])
	checkPlaced(t, legs[:len(shaft)], 0, 1, 2, 3, 4, 5)
	if !slices.Equal(legs, before) {
		t.Error("the list was modified", legs)
	}
	full := append(thereAndBack(impl.MaxLegs), impl.Leg{})[:impl.MaxLegs]
	checkNetwork(t, full)
	checkNoNetwork(t, legs)
	if !slices.Equal(legs, before) || !slices.Equal(full, thereAndBack(impl.MaxLegs)) {
		t.Error("a list was modified", legs, full)
	}
}

// TestResultsOfNetworkFunctionsAreTheirOwn writes to all results and behind their lengths, and
// asks again.
func TestResultsOfNetworkFunctionsAreTheirOwn(t *testing.T) {
	legs := slices.Clone(shaft)
	for range 2 {
		placed, one := impl.PlacedStations(legs)
		tree, two := impl.TreeLegs(legs)
		closing, three := impl.ClosingLegs(legs)
		near, four := impl.StationsWithin(legs, 0, 100)
		checkIndices(t, "PlacedStations", legs, placed, one, []int{0, 1, 2, 3, 4, 5})
		checkIndices(t, "TreeLegs", legs, tree, two, []int{0, 1, 2, 3, 5})
		checkIndices(t, "ClosingLegs", legs, closing, three, []int{6})
		checkIndices(t, "StationsWithin", legs, near, four, []int{0, 1, 3, 4})
		for _, list := range [][]int{placed, tree, closing, near} {
			clear(list)
			clear(append(list, -1, -2, -3))
		}
		if !slices.Equal(legs, shaft) {
			t.Error("a result shares memory with the list", legs)
		}
	}
}
