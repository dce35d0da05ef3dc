package tests

import (
	"math"
	"math/big"
	"slices"
	"testing"

	"loop.example/g00933/impl"
)

// ruledLoop is what the document's words tell of the loop of a closing leg.
type ruledLoop struct {
	stations, legs []int
	misclosure     impl.Shift
	length         int
}

// ruledWay returns the stations and the tree legs between two stations. It takes tree legs away
// that end nowhere until none of these is left.
func ruledWay(legs []impl.Leg, net ruledNetwork, from, to int) (stations, way []int) {
	left := slices.Clone(net.tree)
	for before := -1; before != len(left); {
		before = len(left)
		ends := map[int]int{}
		for _, i := range left {
			ends[legs[i].From]++
			ends[legs[i].To]++
		}
		ends[from]++
		ends[to]++
		left = slices.DeleteFunc(left, func(i int) bool { return ends[legs[i].From] == 1 || ends[legs[i].To] == 1 })
	}
	for stations = []int{from}; len(left) > 0; {
		k := slices.IndexFunc(left, func(i int) bool { return legs[i].From == from || legs[i].To == from })
		from = legs[left[k]].From + legs[left[k]].To - from
		stations, way = append(stations, from), append(way, left[k])
		left = slices.Delete(left, k, k+1)
	}
	return stations, way
}

func ruledLoopOf(legs []impl.Leg, net ruledNetwork, leg int) ruledLoop {
	stations, way := ruledWay(legs, net, legs[leg].To, legs[leg].From)
	loop := ruledLoop{stations: stations, legs: append(way, leg)}
	for k, i := range loop.legs {
		shift := ruledShift(legs[i])
		if legs[i].To == stations[k] {
			shift = opposite(shift)
		}
		loop.misclosure, loop.length = plus(loop.misclosure, shift), loop.length+legs[i].Tape
	}
	return loop
}

// proportion is exact, but for the length of the misclosure, which is a whole number.
func (l ruledLoop) proportion() *big.Rat {
	m, n := l.misclosure, 0
	for (n+1)*(n+1) <= m.East*m.East+m.North*m.North+m.Up*m.Up {
		n++
	}
	return big.NewRat(int64(n), int64(l.length))
}

// ruledBridge gives the stations that hang together without the Leg the same name.
func ruledBridge(legs []impl.Leg, leg int) bool {
	names := []int{0, 1, 2, 3, 4, 5, 6, 7}
	for i, x := range legs {
		from, to := names[x.From], names[x.To]
		for station, name := range names {
			if i != leg && name == from {
				names[station] = to
			}
		}
	}
	return names[legs[leg].From] != names[legs[leg].To]
}

func checkLoop(t *testing.T, legs []impl.Leg, leg int, want ruledLoop) {
	t.Helper()
	stations, ok := impl.LoopOf(legs, leg)
	checkIndices(t, "LoopOf", legs, stations, ok, want.stations)
	along, ok := impl.LoopLegs(legs, leg)
	checkIndices(t, "LoopLegs", legs, along, ok, want.legs)
	misclosure, ok := impl.MisclosureOf(legs, leg)
	if !ok || misclosure != want.misclosure {
		t.Errorf("MisclosureOf(%v, %d) = %v, %v, not %v", legs, leg, misclosure, ok, want.misclosure)
	}
	if e, ok := impl.ErrorOf(legs, leg); !ok || e != misclosure {
		t.Errorf("%v: the misclosure of %d is %v, but its error %v, %v", legs, leg, misclosure, e, ok)
	}
	if length, ok := impl.LoopLength(legs, leg); !ok || length != want.length {
		t.Errorf("LoopLength(%v, %d) = %d, %v, not %d", legs, leg, length, ok, want.length)
	}
}

func checkNoLoop(t *testing.T, legs []impl.Leg, leg int) {
	t.Helper()
	stations, one := impl.LoopOf(legs, leg)
	along, two := impl.LoopLegs(legs, leg)
	misclosure, three := impl.MisclosureOf(legs, leg)
	length, four := impl.LoopLength(legs, leg)
	if one || two || three || four || len(stations)+len(along) != 0 || misclosure != (impl.Shift{}) || length != 0 {
		t.Errorf("%v, %d: %v, %v; %v, %v; %v, %v; %d, %v", legs, leg, stations, one, along, two, misclosure, three, length, four)
	}
}

func checkWorstLoop(t *testing.T, legs []impl.Leg, want int, isThere bool) {
	t.Helper()
	if leg, ok := impl.WorstLoop(legs); ok != isThere || leg != want {
		t.Errorf("WorstLoop(%v) = %d, %v, not %d, %v", legs, leg, ok, want, isThere)
	}
}

func checkBridge(t *testing.T, legs []impl.Leg, leg int, want, isThere bool) {
	t.Helper()
	if is, ok := impl.IsBridge(legs, leg); ok != isThere || is != want {
		t.Errorf("IsBridge(%v, %d) = %v, %v, not %v, %v", legs, leg, is, ok, want, isThere)
	}
}

func checkBridges(t *testing.T, legs []impl.Leg, want ...int) {
	t.Helper()
	got, ok := impl.BridgesOf(legs)
	checkIndices(t, "BridgesOf", legs, got, ok, want)
}

func checkThrough(t *testing.T, legs []impl.Leg, leg int, want ...int) {
	t.Helper()
	if got, ok := impl.LoopsThrough(legs, leg); !ok || !slices.Equal(got, want) {
		t.Errorf("LoopsThrough(%v, %d) = %v, %v, not %v", legs, leg, got, ok, want)
	}
}

func checkNoneThrough(t *testing.T, legs []impl.Leg, leg int) {
	t.Helper()
	if got, ok := impl.LoopsThrough(legs, leg); ok || len(got) != 0 {
		t.Errorf("LoopsThrough(%v, %d) = %v, %v", legs, leg, got, ok)
	}
}

func checkLoopCount(t *testing.T, legs []impl.Leg, want int) {
	t.Helper()
	if n, ok := impl.CountLoops(legs); !ok || n != want {
		t.Errorf("CountLoops(%v) = %d, %v, not %d", legs, n, ok, want)
	}
}

// checkLoops checks all functions at Legs against the document's words, and returns the loops
// of the closing legs.
func checkLoops(t *testing.T, legs []impl.Leg) map[int]ruledLoop {
	t.Helper()
	net, loops, bridges := ruledNetworkOf(legs), map[int]ruledLoop{}, []int{}
	for _, leg := range net.closing {
		loops[leg] = ruledLoopOf(legs, net, leg)
		checkLoop(t, legs, leg, loops[leg])
	}
	for leg := range legs {
		isPlaced := !slices.Contains(net.apart, leg)
		isBridge := isPlaced && ruledBridge(legs, leg)
		checkBridge(t, legs, leg, isBridge, isPlaced)
		if isBridge {
			bridges = append(bridges, leg)
		}
		if !slices.Contains(net.closing, leg) {
			checkNoLoop(t, legs, leg)
		}
	}
	checkBridges(t, legs, bridges...)
	checkThroughAll(t, legs, net, loops)
	checkLoopCount(t, legs, len(net.closing))
	for _, leg := range []int{-1, len(legs), len(legs) + 1} {
		checkNoLoop(t, legs, leg)
		checkNoneThrough(t, legs, leg)
		checkBridge(t, legs, leg, false, false)
	}
	return loops
}

// checkThroughAll also looks for the worst loop.
func checkThroughAll(t *testing.T, legs []impl.Leg, net ruledNetwork, loops map[int]ruledLoop) {
	t.Helper()
	worst, greatest := 0, big.NewRat(-1, 1)
	for _, leg := range net.closing {
		if p := loops[leg].proportion(); p.Cmp(greatest) > 0 {
			worst, greatest = leg, p
		}
	}
	checkWorstLoop(t, legs, worst, len(net.closing) > 0)
	for leg := range legs {
		through := []int{}
		for _, closing := range net.closing {
			if slices.Contains(loops[closing].legs, leg) {
				through = append(through, closing)
			}
		}
		checkThrough(t, legs, leg, through...)
	}
}

func southward(from, to, tape int) impl.Leg {
	return impl.Leg{From: from, To: to, Tape: tape, Compass: 180}
}

// sharedRings has a ring by the station 0, one behind the Leg 2, and the closing legs 8 and 9,
// whose loops share the Leg 4 with the latter.
var sharedRings = []impl.Leg{
	eastward(0, 1, 100), northward(1, 2, 60), upward(0, 3, 50), westward(2, 0, 98),
	upward(3, 4, 20), eastward(4, 5, 30), downward(5, 6, 23), westward(6, 3, 31),
	upward(1, 4, 7), northward(4, 3, 5),
}

func TestLoopsAtKnownLists(t *testing.T) {
	cases := []struct {
		legs []impl.Leg
		leg  int
		want ruledLoop
	}{
		// Along the tree legs, and against their direction.
		{[]impl.Leg{eastward(0, 1, 30), northward(1, 2, 40), westward(2, 3, 33), southward(3, 0, 41)}, 3,
			ruledLoop{[]int{0, 1, 2, 3}, []int{0, 1, 2, 3}, impl.Shift{East: -3, North: -1}, 144}},
		{[]impl.Leg{eastward(0, 1, 30), northward(1, 2, 40), westward(2, 3, 33), northward(0, 3, 41)}, 3,
			ruledLoop{[]int{3, 2, 1, 0}, []int{2, 1, 0, 3}, impl.Shift{East: 3, North: 1}, 144}},
		{[]impl.Leg{eastward(1, 0, 30), northward(2, 1, 40), westward(3, 2, 33), northward(3, 0, 41)}, 3,
			ruledLoop{[]int{0, 1, 2, 3}, []int{0, 1, 2, 3}, impl.Shift{East: 3, North: 1}, 144}},
		{[]impl.Leg{eastward(1, 0, 30), northward(2, 1, 40), westward(3, 2, 33), southward(0, 3, 41)}, 3,
			ruledLoop{[]int{3, 2, 1, 0}, []int{2, 1, 0, 3}, impl.Shift{East: -3, North: -1}, 144}},
		// The station 0 lies within the way.
		{[]impl.Leg{eastward(0, 1, 8), upward(0, 2, 5), upward(1, 2, 6)}, 2,
			ruledLoop{[]int{2, 0, 1}, []int{1, 0, 2}, impl.Shift{East: 8, Up: 1}, 19}},
		{[]impl.Leg{upward(1, 2, 6), eastward(0, 1, 8), upward(0, 2, 5)}, 0,
			ruledLoop{[]int{2, 0, 1}, []int{2, 1, 0}, impl.Shift{East: 8, Up: 1}, 19}},
		{[]impl.Leg{upward(2, 1, 6), upward(0, 2, 5), eastward(0, 1, 8)}, 0,
			ruledLoop{[]int{1, 0, 2}, []int{2, 1, 0}, impl.Shift{East: -8, Up: 11}, 19}},
		// Rings behind a chain, entered where it ends.
		{[]impl.Leg{eastward(0, 1, 500), upward(1, 2, 400), eastward(2, 3, 10), northward(3, 4, 20), westward(4, 2, 12)}, 4,
			ruledLoop{[]int{2, 3, 4}, []int{2, 3, 4}, impl.Shift{East: -2, North: 20}, 42}},
		{[]impl.Leg{eastward(0, 1, 500), upward(1, 2, 400), eastward(2, 3, 10), northward(3, 4, 20), eastward(2, 4, 12)}, 4,
			ruledLoop{[]int{4, 3, 2}, []int{3, 2, 4}, impl.Shift{East: 2, North: -20}, 42}},
		{[]impl.Leg{eastward(0, 1, 500), upward(1, 2, 400), eastward(2, 3, 10), northward(2, 4, 20), upward(3, 4, 12)}, 4,
			ruledLoop{[]int{4, 2, 3}, []int{3, 2, 4}, impl.Shift{East: 10, North: -20, Up: 12}, 42}},
		{shaft, 6, ruledLoop{[]int{4, 3, 0}, []int{5, 3, 6}, impl.Shift{East: 50, Up: -3}, 113}},
	}
	for _, c := range cases {
		checkLoop(t, c.legs, c.leg, c.want)
		checkLoops(t, c.legs)
	}
}

func TestLoopsThatShareLegs(t *testing.T) {
	checkLoop(t, sharedRings, 3, ruledLoop{[]int{0, 1, 2}, []int{0, 1, 3}, impl.Shift{East: 2, North: 60}, 258})
	checkLoop(t, sharedRings, 7, ruledLoop{[]int{3, 4, 5, 6}, []int{4, 5, 6, 7}, impl.Shift{East: -1, Up: -3}, 104})
	checkLoop(t, sharedRings, 8, ruledLoop{[]int{4, 3, 0, 1}, []int{4, 2, 0, 8}, impl.Shift{East: 100, Up: -63}, 177})
	checkLoop(t, sharedRings, 9, ruledLoop{[]int{3, 4}, []int{4, 9}, impl.Shift{North: 5, Up: 20}, 25})
	for leg, want := range [][]int{{3, 8}, {3}, {8}, {3}, {7, 8, 9}, {7}, {7}, {7}, {8}, {9}} {
		checkThrough(t, sharedRings, leg, want...)
	}
	checkBridges(t, sharedRings)
	checkLoopCount(t, sharedRings, 4)
	checkWorstLoop(t, sharedRings, 9, true)
	checkLoops(t, sharedRings)
}

func TestTwoLegsBetweenTwoStations(t *testing.T) {
	cases := []struct {
		legs []impl.Leg
		leg  int
		want ruledLoop
	}{
		// In the same direction, and in opposite ones, from the station 0 and to it.
		{[]impl.Leg{eastward(0, 1, 100), eastward(0, 1, 110)}, 1, ruledLoop{[]int{1, 0}, []int{0, 1}, impl.Shift{East: 10}, 210}},
		{[]impl.Leg{eastward(1, 0, 100), eastward(1, 0, 110)}, 1, ruledLoop{[]int{0, 1}, []int{0, 1}, impl.Shift{East: 10}, 210}},
		{[]impl.Leg{eastward(0, 1, 100), westward(1, 0, 110)}, 1, ruledLoop{[]int{0, 1}, []int{0, 1}, impl.Shift{East: -10}, 210}},
		{[]impl.Leg{eastward(1, 0, 100), westward(0, 1, 110)}, 1, ruledLoop{[]int{1, 0}, []int{0, 1}, impl.Shift{East: -10}, 210}},
		{[]impl.Leg{eastward(0, 1, 100), eastward(1, 0, 100)}, 1, ruledLoop{[]int{0, 1}, []int{0, 1}, impl.Shift{East: 200}, 200}},
		// Behind a chain, and with the closing leg before the tree leg.
		{[]impl.Leg{upward(0, 4, 9), upward(4, 7, 9), northward(7, 5, 50), northward(7, 5, 47)}, 3, ruledLoop{[]int{5, 7}, []int{2, 3}, impl.Shift{North: -3}, 97}},
		{[]impl.Leg{upward(0, 4, 9), upward(4, 7, 9), northward(7, 5, 50), southward(5, 7, 47)}, 3, ruledLoop{[]int{7, 5}, []int{2, 3}, impl.Shift{North: 3}, 97}},
		{[]impl.Leg{northward(7, 5, 50), upward(4, 7, 9), southward(5, 7, 47), upward(0, 4, 9)}, 0, ruledLoop{[]int{5, 7}, []int{2, 0}, impl.Shift{North: 3}, 97}},
		{[]impl.Leg{northward(2, 3, 10), northward(0, 2, 5), upward(2, 3, 4), upward(2, 4, 7)}, 0, ruledLoop{[]int{3, 2}, []int{2, 0}, impl.Shift{North: 10, Up: -4}, 14}},
	}
	for _, c := range cases {
		checkLoop(t, c.legs, c.leg, c.want)
		// Both Legs are on this loop alone, and all others are bridges.
		bridges := []int{}
		for leg := range c.legs {
			isTwin := slices.Contains(c.want.legs, leg)
			checkBridge(t, c.legs, leg, !isTwin, true)
			if isTwin {
				checkThrough(t, c.legs, leg, c.leg)
			} else {
				checkThrough(t, c.legs, leg)
				bridges = append(bridges, leg)
			}
		}
		checkBridges(t, c.legs, bridges...)
		checkWorstLoop(t, c.legs, c.leg, true)
		checkLoopCount(t, c.legs, 1)
		checkLoops(t, c.legs)
	}
}

// TestThreeLegsBetweenTwoStations has them in all directions, alone, behind another Leg, and on
// the way of a ring, whose loop goes along the first of them only.
func TestThreeLegsBetweenTwoStations(t *testing.T) {
	for directions := range 8 {
		three := []impl.Leg{northward(1, 2, 30), upward(1, 2, 40), eastward(1, 2, 50)}
		for i := range three {
			if directions>>i%2 == 1 {
				three[i].From, three[i].To = 2, 1
			}
		}
		behind := append([]impl.Leg{northward(0, 1, 7)}, three...)
		checkThreeLegs(t, behind, 2, 3)
		checkBridges(t, behind, 0)
		checkThrough(t, behind, 0)

		ring := append(behind, westward(2, 0, 90))
		checkThreeLegs(t, ring, 2, 3, 4)
		checkBridges(t, ring)
		checkThrough(t, ring, 0, 4)
		along, ok := impl.LoopLegs(ring, 4)
		checkIndices(t, "LoopLegs", ring, along, ok, []int{0, 1, 4})

		apart := append(slices.Clone(three), eastward(0, 3, 5))
		checkBridges(t, apart, 3)
		for leg := range three {
			checkNoLoop(t, apart, leg)
			checkBridge(t, apart, leg, false, false)
			checkThrough(t, apart, leg)
		}
		checkLoopCount(t, apart, 0)
		checkLoops(t, apart)
	}
}

// checkThreeLegs checks the Legs 1 to 3, of which the first one is a tree leg, on the loops of
// all closing legs.
func checkThreeLegs(t *testing.T, legs []impl.Leg, closing ...int) {
	t.Helper()
	for _, leg := range []int{2, 3} {
		stations, ok := impl.LoopOf(legs, leg)
		checkIndices(t, "LoopOf", legs, stations, ok, []int{legs[leg].To, legs[leg].From})
		along, ok := impl.LoopLegs(legs, leg)
		checkIndices(t, "LoopLegs", legs, along, ok, []int{1, leg})
		if length, ok := impl.LoopLength(legs, leg); !ok || length != 20+10*leg+30 {
			t.Errorf("LoopLength(%v, %d) = %d, %v", legs, leg, length, ok)
		}
		checkThrough(t, legs, leg, leg)
	}
	for leg := 1; leg <= 3; leg++ {
		checkBridge(t, legs, leg, false, true)
	}
	checkThrough(t, legs, 1, closing...)
	checkLoopCount(t, legs, len(closing))
	checkLoops(t, legs)
}

func TestWorstLoopAtKnownLists(t *testing.T) {
	none := [][]impl.Leg{nil, {}, joined([2]int{0, 1}), legsBetween(0, 1, 2, 3), legsBetween(4, 5, 6, 4), joined([2]int{0, 3}, [2]int{1, 2}, [2]int{1, 2})}
	for _, legs := range none {
		checkWorstLoop(t, legs, 0, false)
		checkLoops(t, legs)
	}
	cases := []struct {
		legs []impl.Leg
		want int
	}{
		{legsBetween(0, 1, 2, 0), 2}, {legsBetween(1, 2, 0, 1), 0}, {shaft, 6},
		// 10 of 210 is 20 of 420; a misclosure of 21, or a length of 419 or 421, decides.
		{[]impl.Leg{eastward(0, 1, 100), eastward(0, 1, 110), eastward(0, 2, 200), eastward(0, 2, 220)}, 1},
		{[]impl.Leg{eastward(0, 2, 200), eastward(0, 2, 220), eastward(0, 1, 100), eastward(0, 1, 110)}, 1},
		{[]impl.Leg{eastward(0, 1, 100), eastward(0, 1, 110), eastward(0, 2, 200), eastward(0, 2, 221)}, 3},
		{[]impl.Leg{eastward(0, 1, 100), eastward(0, 1, 110), upward(0, 2, 199), upward(0, 2, 220)}, 3},
		{[]impl.Leg{eastward(0, 1, 100), eastward(0, 1, 110), upward(0, 2, 201), upward(0, 2, 220)}, 1},
		// The greater misclosure, 40 of 840, is smaller in proportion than 2 of 22.
		{[]impl.Leg{eastward(0, 1, 400), eastward(0, 1, 440), northward(0, 2, 10), northward(0, 2, 12)}, 3},
		{[]impl.Leg{northward(0, 2, 10), northward(0, 2, 12), eastward(0, 1, 400), eastward(0, 1, 440)}, 1},
		// 1 of 997 is more than 1 of 999.
		{[]impl.Leg{eastward(0, 1, 499), eastward(0, 1, 500), upward(0, 2, 498), upward(0, 2, 499)}, 3},
		{[]impl.Leg{upward(0, 2, 498), upward(0, 2, 499), eastward(0, 1, 499), eastward(0, 1, 500)}, 1},
		// Misclosures of nothing, alone and beside the smallest one, in the longest loop of two Legs.
		{[]impl.Leg{upward(0, 1, 70), upward(0, 1, 70), upward(0, 1, 70)}, 1},
		{[]impl.Leg{upward(0, 1, 70), downward(1, 0, 70), eastward(0, 2, 499), westward(2, 0, 500)}, 3},
		{[]impl.Leg{eastward(0, 2, 499), westward(2, 0, 500), upward(0, 1, 70), downward(1, 0, 70)}, 1},
		// Of a misclosure of 2, and one of 2 to the east and 2 to the north, LengthOf is 2.
		{[]impl.Leg{eastward(0, 1, 10), eastward(0, 1, 12), eastward(0, 2, 7), northward(2, 3, 6), westward(3, 4, 5), southward(4, 0, 4)}, 1},
		{[]impl.Leg{eastward(0, 2, 7), northward(2, 3, 6), westward(3, 4, 5), southward(4, 0, 4), eastward(0, 1, 10), eastward(0, 1, 12)}, 3},
		{[]impl.Leg{eastward(0, 1, 10), eastward(0, 1, 12), eastward(0, 2, 7), northward(2, 3, 6), westward(3, 4, 5), southward(4, 0, 3)}, 5},
	}
	for _, c := range cases {
		checkWorstLoop(t, c.legs, c.want, true)
		checkLoops(t, c.legs)
	}
}

// TestWorstLoopAtTheLimits has the longest loop, which misses all of its length, beside loops
// that miss as much in proportion, and because of the rounding even more.
func TestWorstLoopAtTheLimits(t *testing.T) {
	longest := legsBetween(0, 1, 2, 3, 4, 5, 6, 7, 0)
	for i, x := range longest {
		longest[i] = upward(x.From, x.To, impl.MaxTape)
	}
	checkLoop(t, longest, 7, ruledLoop{[]int{0, 1, 2, 3, 4, 5, 6, 7}, []int{0, 1, 2, 3, 4, 5, 6, 7}, impl.Shift{Up: 4000}, 4000})
	checkWorstLoop(t, longest, 7, true)
	checkWorstLoop(t, append(slices.Clone(longest), upward(1, 0, impl.MaxTape)), 7, true)
	// A loop that misses 3999 of 4000 is less bad than one that misses all.
	nearly := slices.Clone(longest)
	nearly[3] = impl.Leg{From: 3, To: 4, Tape: 500, Slope: 86}
	checkLoops(t, nearly)
	for _, tape := range []int{1, 2, 499, 500} {
		checkWorstLoop(t, append(slices.Clone(nearly), upward(1, 0, tape)), 8, true)
		checkLoops(t, append(slices.Clone(nearly), upward(1, 0, tape)))
	}
	short := impl.Leg{From: 0, To: 1, Tape: 1, Compass: 45, Slope: 45}
	back := short
	back.From, back.To = 1, 0
	most := append([]impl.Leg{short, back}, longest[1:]...)
	checkLoop(t, most, 1, ruledLoop{[]int{0, 1}, []int{0, 1}, impl.Shift{East: 2, North: 2, Up: 2}, 2})
	checkWorstLoop(t, most, 1, true)
	checkLoops(t, most)
}

func TestBridgesAtKnownLists(t *testing.T) {
	cases := []struct {
		legs          []impl.Leg
		bridges, ring []int
	}{
		{nil, nil, nil}, {[]impl.Leg{}, nil, nil},
		// Chains alone, from the station 0, to it and by it, in both directions.
		{joined([2]int{0, 1}), []int{0}, nil}, {joined([2]int{1, 0}), []int{0}, nil},
		{legsBetween(0, 1, 2, 3, 4, 5, 6, 7), []int{0, 1, 2, 3, 4, 5, 6}, nil}, {legsBetween(7, 6, 5, 4, 3, 2, 1, 0), []int{0, 1, 2, 3, 4, 5, 6}, nil},
		{legsBetween(2, 1, 0, 3), []int{0, 1, 2}, nil}, {joined([2]int{1, 0}, [2]int{0, 2}, [2]int{3, 0}), []int{0, 1, 2}, nil},
		// A loop with a chain behind it, before it, and between two loops.
		{legsBetween(0, 1, 2, 0, 3, 4), []int{3, 4}, []int{0, 1, 2}}, {legsBetween(0, 3, 4, 5, 6, 4), []int{0, 1}, []int{2, 3, 4}},
		{joined([2]int{4, 3}, [2]int{2, 0}, [2]int{3, 2}, [2]int{1, 2}, [2]int{0, 1}), []int{0, 2}, []int{1, 3, 4}},
		{legsBetween(0, 1, 2, 0, 3, 4, 5, 3), []int{3}, []int{0, 1, 2, 4, 5, 6}},
		// Two loops that share a station, and two that share a Leg.
		{legsBetween(0, 1, 2, 0, 3, 4, 0), nil, []int{0, 1, 2, 3, 4, 5}}, {legsBetween(0, 1, 2, 3, 1, 4, 5, 1), []int{0}, []int{1, 2, 3, 4, 5, 6}},
		{legsBetween(0, 1, 2, 0, 3, 1), nil, []int{0, 1, 2, 3, 4}}, {legsBetween(0, 1, 2, 3, 1, 4, 2), []int{0}, []int{1, 2, 3, 4, 5}},
		// Two Legs between two stations, with others behind and before them.
		{joined([2]int{0, 1}, [2]int{0, 1}), nil, []int{0, 1}}, {joined([2]int{0, 1}, [2]int{1, 0}), nil, []int{0, 1}},
		{joined([2]int{0, 1}, [2]int{1, 2}, [2]int{2, 3}, [2]int{2, 1}), []int{0, 2}, []int{1, 3}},
		{thereAndBack(impl.MaxLegs), nil, []int{0, 1, 2, 3, 4, 5, 6, 7, 8, 9, 10, 11}},
		// Lists that do not hang together: the Legs in neither list fail.
		{legsBetween(4, 5, 6, 7), nil, nil}, {legsBetween(4, 5, 6, 4), nil, nil}, {joined([2]int{4, 5}, [2]int{0, 1}, [2]int{5, 6}), []int{1}, nil},
		{joined([2]int{4, 5}, [2]int{0, 1}, [2]int{5, 4}, [2]int{1, 0}, [2]int{2, 1}), []int{4}, []int{1, 3}},
		{shaft, []int{0, 1, 2}, []int{3, 5, 6}}, {sharedRings, nil, []int{0, 1, 2, 3, 4, 5, 6, 7, 8, 9}},
	}
	for _, c := range cases {
		checkBridges(t, c.legs, c.bridges...)
		for leg := range c.legs {
			isBridge := slices.Contains(c.bridges, leg)
			checkBridge(t, c.legs, leg, isBridge, isBridge || slices.Contains(c.ring, leg))
		}
		checkLoops(t, c.legs)
	}
}

func TestLoopsThroughAndCountLoopsAtKnownLists(t *testing.T) {
	cases := []struct {
		legs    []impl.Leg
		through [][]int
		count   int
	}{
		{nil, nil, 0}, {[]impl.Leg{}, nil, 0}, {joined([2]int{0, 1}), [][]int{{}}, 0}, {legsBetween(4, 5, 6, 4), [][]int{{}, {}, {}}, 0},
		{legsBetween(0, 1, 2, 0, 3), [][]int{{2}, {2}, {2}, {}}, 1}, {legsBetween(1, 2, 0, 1), [][]int{{0}, {0}, {0}}, 1},
		// Two loops that share a station, a Leg, and a Leg that is gone along in both directions.
		{legsBetween(0, 1, 2, 0, 3, 4, 0), [][]int{{2}, {2}, {2}, {5}, {5}, {5}}, 2},
		{legsBetween(0, 1, 2, 0, 3, 1), [][]int{{2, 4}, {2}, {2}, {4}, {4}}, 2},
		{joined([2]int{0, 1}, [2]int{0, 2}, [2]int{1, 2}, [2]int{0, 1}, [2]int{1, 0}), [][]int{{2, 3, 4}, {2}, {2}, {3}, {4}}, 3},
		// A closing leg before the tree legs of its loop, one behind them, and some that hang apart.
		{joined([2]int{2, 3}, [2]int{6, 7}, [2]int{0, 2}, [2]int{0, 3}, [2]int{7, 6}, [2]int{3, 2}), [][]int{{0}, {}, {0, 5}, {0, 5}, {}, {5}}, 2},
		{shaft, [][]int{{}, {}, {}, {6}, {}, {6}, {6}, {}}, 1},
		{thereAndBack(4), [][]int{{1, 2, 3}, {1}, {2}, {3}}, 3},
	}
	for _, c := range cases {
		for leg, want := range c.through {
			checkThrough(t, c.legs, leg, want...)
		}
		checkLoopCount(t, c.legs, c.count)
		checkLoops(t, c.legs)
	}
	checkLoopCount(t, thereAndBack(impl.MaxLegs), impl.MaxLegs-1)
	checkThrough(t, thereAndBack(impl.MaxLegs), 0, 1, 2, 3, 4, 5, 6, 7, 8, 9, 10, 11)
}

func TestOtherIndicesAreRefused(t *testing.T) {
	lists := [][]impl.Leg{nil, {}, legsBetween(0, 1, 2, 3), legsBetween(4, 5, 6, 4), shaft, sharedRings, thereAndBack(impl.MaxLegs)}
	for _, legs := range lists {
		for _, leg := range []int{-1, -2, -len(legs) - 1, len(legs), len(legs) + 1, impl.MaxLegs, impl.MaxLegs + 1, math.MaxInt, math.MinInt} {
			checkNoLoop(t, legs, leg)
			checkNoneThrough(t, legs, leg)
			checkBridge(t, legs, leg, false, false)
		}
	}
	// Tree legs and Legs that hang apart have no loop, and the latter may be no bridges.
	for _, leg := range []int{0, 1, 2, 3, 4, 5, 7} {
		checkNoLoop(t, shaft, leg)
	}
	checkBridge(t, shaft, 4, false, false)
	checkBridge(t, shaft, 7, false, false)
	checkNoLoop(t, thereAndBack(impl.MaxLegs), 0)
}

func TestMisclosuresAreTheErrorsOfClosingLegs(t *testing.T) {
	check := func(legs []impl.Leg) map[string]bool { return kindsOfLoops(legs, checkLoops(t, legs)) }
	checkSample(t, 21, 1500, check, "none", "several", "shared", "against", "along", "From nearer", "To nearer",
		"by 0", "far from 0", "two Legs", "long")
}

func kindsOfLoops(legs []impl.Leg, loops map[int]ruledLoop) map[string]bool {
	kinds, net, times := map[string]bool{"none": len(loops) == 0, "several": len(loops) > 1}, ruledNetworkOf(legs), map[int]int{}
	for leg, loop := range loops {
		_, wayToFrom := ruledWay(legs, net, 0, legs[leg].From)
		_, wayToTo := ruledWay(legs, net, 0, legs[leg].To)
		isByZero := slices.Contains(loop.stations, 0)
		loopKinds := map[string]bool{
			"From nearer": len(wayToFrom) < len(wayToTo), "To nearer": len(wayToTo) < len(wayToFrom),
			"by 0": isByZero, "far from 0": !isByZero, "two Legs": len(loop.legs) == 2, "long": len(loop.legs) >= 4,
		}
		for k, i := range loop.legs {
			times[i]++
			loopKinds["shared"] = loopKinds["shared"] || times[i] > 1
			isAlong := legs[i].From == loop.stations[k]
			loopKinds["along"] = loopKinds["along"] || i != leg && isAlong
			loopKinds["against"] = loopKinds["against"] || !isAlong
		}
		for kind, isSo := range loopKinds {
			kinds[kind] = kinds[kind] || isSo
		}
	}
	return kinds
}

func TestLoopsOfAllShortLists(t *testing.T) {
	for legs := range allShortLists {
		checkLoops(t, legs)
	}
}

func TestLoopsOfTheMostLegs(t *testing.T) {
	n := numbers{22}
	for range 200 {
		legs := n.legsAmong(impl.MaxStations, impl.MaxLegs+1)
		checkLoops(t, legs[:impl.MaxLegs])
		checkNoLoops(t, legs)
	}
	checkLoops(t, thereAndBack(impl.MaxLegs))
	checkNoLoops(t, thereAndBack(impl.MaxLegs+1))
	checkNoLoops(t, thereAndBack(1000))
	checkLoops(t, legsBetween(7, 6, 5, 4, 3, 2, 1, 0, 2, 4, 6, 0, 7))
	checkNoLoops(t, legsBetween(7, 6, 5, 4, 3, 2, 1, 0, 2, 4, 6, 0, 7, 6))
}

// checkNoLoops checks that no function takes the list, whatever else it is asked for.
func checkNoLoops(t *testing.T, legs []impl.Leg) {
	t.Helper()
	checkWorstLoop(t, legs, 0, false)
	bridges, one := impl.BridgesOf(legs)
	count, two := impl.CountLoops(legs)
	if one || two || len(bridges) != 0 || count != 0 {
		t.Errorf("%v: %v, %v; %d, %v", legs, bridges, one, count, two)
	}
	for leg := -1; leg <= len(legs); leg++ {
		checkNoLoop(t, legs, leg)
		checkNoneThrough(t, legs, leg)
		checkBridge(t, legs, leg, false, false)
	}
}

func TestListsThatAreNoLegsHaveNoLoops(t *testing.T) {
	checkLoops(t, legsBetween(0, 1, 2, 3, 0))
	for _, legs := range spoiltLegLists() {
		checkNoLoops(t, legs)
	}
}

func TestLoopFunctionsReturnForAllArguments(t *testing.T) {
	for i, x := range oddLegs() {
		list := []impl.Leg{eastward(0, 1, 20), x, northward(1, 7, 20), upward(7, 0, 20)}[:2+i%3]
		leg := legNumbers[i%len(legNumbers)]
		if !ruledLeg(x) {
			checkNoLoop(t, list, leg)
			checkNoneThrough(t, list, leg)
			checkBridge(t, list, leg, false, false)
			checkWorstLoop(t, list, 0, false)
			continue
		}
		loops := checkLoops(t, list)
		if _, isThere := loops[leg]; !isThere {
			checkNoLoop(t, list, leg)
		}
		if leg < 0 || leg >= len(list) {
			checkNoneThrough(t, list, leg)
			checkBridge(t, list, leg, false, false)
		}
	}
}

func TestLoopFunctionsLeaveTheirLists(t *testing.T) {
	// Behind the length of a list there are Legs that are neither read nor written.
	legs := append(slices.Clone(shaft), eastward(0, 5, 500), impl.Leg{From: -7, To: 77, Tape: 777})
	before := slices.Clone(legs)
	checkLoops(t, legs[:len(shaft)])
	checkLoops(t, legs[:0])
	checkBridges(t, legs[:len(shaft)], 0, 1, 2)
	checkWorstLoop(t, legs[:len(shaft)], 6, true)
	checkNoLoops(t, legs)
	full := append(thereAndBack(impl.MaxLegs), impl.Leg{})[:impl.MaxLegs]
	checkLoops(t, full)
	if !slices.Equal(legs, before) || !slices.Equal(full, thereAndBack(impl.MaxLegs)) || full[:impl.MaxLegs+1][impl.MaxLegs] != (impl.Leg{}) {
		t.Error("a list was modified", legs, full)
	}
}

// TestResultsOfLoopFunctionsAreTheirOwn writes to all results and behind their lengths, and asks
// again.
func TestResultsOfLoopFunctionsAreTheirOwn(t *testing.T) {
	legs := slices.Clone(shaft)
	for range 2 {
		stations, one := impl.LoopOf(legs, 6)
		along, two := impl.LoopLegs(legs, 6)
		bridges, three := impl.BridgesOf(legs)
		through, four := impl.LoopsThrough(legs, 5)
		checkIndices(t, "LoopOf", legs, stations, one, []int{4, 3, 0})
		checkIndices(t, "LoopLegs", legs, along, two, []int{5, 3, 6})
		checkIndices(t, "BridgesOf", legs, bridges, three, []int{0, 1, 2})
		checkIndices(t, "LoopsThrough", legs, through, four, []int{6})
		for _, list := range [][]int{stations, along, bridges, through} {
			clear(list)
			clear(append(list, -1, -2, -3))
		}
		if !slices.Equal(legs, shaft) {
			t.Error("a result shares memory with the list", legs)
		}
	}
}
