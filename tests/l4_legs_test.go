package tests

import (
	"math"
	"slices"
	"strconv"
	"strings"
	"testing"

	"loop.example/g00933/impl"
)

// ruledLeg follows the document's words on a valid Leg.
func ruledLeg(x impl.Leg) bool {
	return x.From >= 0 && x.From <= 7 && x.To >= 0 && x.To <= 7 && x.From != x.To &&
		x.Tape >= 1 && x.Tape <= 500 && isBearing(x.Compass) && x.Slope >= -90 && x.Slope <= 90
}

// ruledPart uses floats: a thousandth is far above their error, and Round takes the one of two
// near numbers that is farther from 0.
func ruledPart(length, thousandths int) int {
	return int(math.Round(float64(length*thousandths) / 1000))
}

func ruledShift(x impl.Leg) impl.Shift {
	level := ruledPart(x.Tape, ruledCosine(x.Slope))
	return impl.Shift{
		East:  ruledPart(level, ruledSine(x.Compass)),
		North: ruledPart(level, ruledCosine(x.Compass)),
		Up:    ruledPart(x.Tape, ruledSine(x.Slope)),
	}
}

func opposite(s impl.Shift) impl.Shift { return impl.Shift{East: -s.East, North: -s.North, Up: -s.Up} }

func (n *numbers) leg() impl.Leg {
	from := n.next(impl.MaxStations)
	to := (from + n.within(1, impl.MaxStations-1)) % impl.MaxStations
	return impl.Leg{From: from, To: to, Tape: n.within(1, impl.MaxTape), Compass: n.next(360), Slope: n.within(-90, 90)}
}

// legsBetween are legs that lead from each station to the next one.
func legsBetween(stations ...int) []impl.Leg {
	list := []impl.Leg{}
	for i := 1; i < len(stations); i++ {
		list = append(list, impl.Leg{From: stations[i-1], To: stations[i], Tape: 10 * i, Compass: 37 * i % 360, Slope: 9*i - 50})
	}
	return list
}

// spoiltLegs are invalid: the zero Leg, and others in one field each.
func spoiltLegs() []impl.Leg {
	fields := []struct {
		set     func(x *impl.Leg, n int)
		numbers []int
	}{
		{func(x *impl.Leg, n int) { x.From = n }, []int{-1, 8, 3, math.MaxInt, math.MinInt}},
		{func(x *impl.Leg, n int) { x.To = n }, []int{-1, 8, 2, math.MaxInt, math.MinInt}},
		{func(x *impl.Leg, n int) { x.Tape = n }, []int{0, -1, 501, math.MaxInt, math.MinInt}},
		{func(x *impl.Leg, n int) { x.Compass = n }, []int{-1, 360, math.MaxInt, math.MinInt}},
		{func(x *impl.Leg, n int) { x.Slope = n }, []int{-91, 91, math.MaxInt, math.MinInt}},
	}
	list := []impl.Leg{{}}
	for _, field := range fields {
		for _, n := range field.numbers {
			x := impl.Leg{From: 2, To: 3, Tape: 40, Compass: 50, Slope: 6}
			field.set(&x, n)
			list = append(list, x)
		}
	}
	return list
}

func TestLegLimits(t *testing.T) {
	if impl.MaxStations != 8 || impl.MaxLegs != 12 || impl.MaxTape != 500 {
		t.Error("limits", impl.MaxStations, impl.MaxLegs, impl.MaxTape)
	}
}

func TestIsLegAtTheLimits(t *testing.T) {
	cases := []struct {
		x    impl.Leg
		want bool
	}{
		{impl.Leg{From: 0, To: 7, Tape: 1}, true}, {impl.Leg{From: 7, To: 0, Tape: 1}, true}, {impl.Leg{From: 0, To: 1, Tape: 1}, true},
		{impl.Leg{From: -1, To: 1, Tape: 1}, false}, {impl.Leg{From: 8, To: 1, Tape: 1}, false},
		{impl.Leg{From: 1, To: -1, Tape: 1}, false}, {impl.Leg{From: 1, To: 8, Tape: 1}, false},
		{impl.Leg{From: -1, To: 8, Tape: 1}, false}, {impl.Leg{From: 8, To: 9, Tape: 1}, false},
		{impl.Leg{From: 0, To: 0, Tape: 1}, false}, {impl.Leg{From: 4, To: 4, Tape: 1}, false}, {impl.Leg{From: 7, To: 7, Tape: 1}, false},
		{impl.Leg{To: 1, Tape: 0}, false}, {impl.Leg{To: 1, Tape: -1}, false}, {impl.Leg{To: 1, Tape: 2}, true},
		{impl.Leg{To: 1, Tape: 499}, true}, {impl.Leg{To: 1, Tape: 500}, true}, {impl.Leg{To: 1, Tape: 501}, false},
		{impl.Leg{To: 1, Tape: 1, Compass: -1}, false}, {impl.Leg{To: 1, Tape: 1, Compass: 1}, true},
		{impl.Leg{To: 1, Tape: 1, Compass: 359}, true}, {impl.Leg{To: 1, Tape: 1, Compass: 360}, false},
		{impl.Leg{To: 1, Tape: 1, Slope: -90}, true}, {impl.Leg{To: 1, Tape: 1, Slope: -91}, false},
		{impl.Leg{To: 1, Tape: 1, Slope: 90}, true}, {impl.Leg{To: 1, Tape: 1, Slope: 91}, false},
		{impl.Leg{From: 7, To: 6, Tape: 500, Compass: 359, Slope: 90}, true}, {impl.Leg{}, false},
	}
	for _, c := range cases {
		if impl.IsLeg(c.x) != c.want {
			t.Errorf("IsLeg(%v) is not %v", c.x, c.want)
		}
	}
}

func TestIsLegOfAllStations(t *testing.T) {
	for from := -2; from < 11; from++ {
		for to := -2; to < 11; to++ {
			x := impl.Leg{From: from, To: to, Tape: 100}
			if impl.IsLeg(x) != ruledLeg(x) {
				t.Errorf("IsLeg(%v) is not %v", x, ruledLeg(x))
			}
		}
	}
}

func TestShiftOfAtKnownLegs(t *testing.T) {
	cases := []struct {
		tape, compass, slope int
		want                 impl.Shift
	}{
		// Level ones, along the axes and in all four quarters.
		{100, 0, 0, impl.Shift{North: 100}}, {100, 90, 0, impl.Shift{East: 100}},
		{100, 180, 0, impl.Shift{North: -100}}, {100, 270, 0, impl.Shift{East: -100}},
		{100, 30, 0, impl.Shift{East: 50, North: 87}}, {100, 150, 0, impl.Shift{East: 50, North: -87}},
		{100, 210, 0, impl.Shift{East: -50, North: -87}}, {100, 330, 0, impl.Shift{East: -50, North: 87}},
		{500, 45, 0, impl.Shift{East: 354, North: 354}}, {500, 359, 0, impl.Shift{East: -9, North: 500}},
		// Rising and falling ones.
		{100, 180, -30, impl.Shift{North: -87, Up: -50}}, {100, 0, 30, impl.Shift{North: 87, Up: 50}},
		{100, 30, 30, impl.Shift{East: 44, North: 75, Up: 50}}, {100, 150, -30, impl.Shift{East: 44, North: -75, Up: -50}},
		{100, 210, 30, impl.Shift{East: -44, North: -75, Up: 50}}, {100, 330, -30, impl.Shift{East: -44, North: 75, Up: -50}},
		{120, 90, -5, impl.Shift{East: 120, Up: -10}}, {500, 45, 60, impl.Shift{East: 177, North: 177, Up: 433}},
		{500, 270, 89, impl.Shift{East: -9, Up: 500}}, {500, 90, -89, impl.Shift{East: 9, Up: -500}},
		// A half is rounded away from 0: of the tape, of the level length, and of both.
		{1, 0, 60, impl.Shift{North: 1, Up: 1}}, {1, 180, -60, impl.Shift{North: -1, Up: -1}}, {1, 0, 30, impl.Shift{North: 1, Up: 1}},
		{1, 30, 0, impl.Shift{East: 1, North: 1}}, {1, 210, 0, impl.Shift{East: -1, North: -1}}, {1, 210, 60, impl.Shift{East: -1, North: -1, Up: 1}},
		{3, 210, -30, impl.Shift{East: -2, North: -3, Up: -2}}, {1, 0, 61, impl.Shift{Up: 1}},
	}
	for _, c := range cases {
		x := impl.Leg{From: 3, To: 5, Tape: c.tape, Compass: c.compass, Slope: c.slope}
		if s, ok := impl.ShiftOf(x); !ok || s != c.want {
			t.Errorf("ShiftOf(%v) = %v, %v, not %v", x, s, ok, c.want)
		}
	}
}

func TestShiftOfStraightUpAndDown(t *testing.T) {
	for compass := range 360 {
		for _, tape := range []int{1, 2, 57, 499, 500} {
			up, one := impl.ShiftOf(impl.Leg{From: 6, To: 0, Tape: tape, Compass: compass, Slope: 90})
			down, two := impl.ShiftOf(impl.Leg{From: 6, To: 0, Tape: tape, Compass: compass, Slope: -90})
			if !one || up != (impl.Shift{Up: tape}) || !two || down != (impl.Shift{Up: -tape}) {
				t.Errorf("%d straight up and down at %d: %v, %v, %v, %v", tape, compass, up, one, down, two)
			}
		}
	}
}

// TestTheShiftOfTheReverseIsTheOpposite has all directions, with short tapes, for which the
// rounding decides, and with long ones.
func TestTheShiftOfTheReverseIsTheOpposite(t *testing.T) {
	for _, tape := range []int{1, 3, 10, 250, 377, 499, 500} {
		for compass := range 360 {
			for slope := -90; slope <= 90; slope++ {
				x := impl.Leg{From: 1, To: 2, Tape: tape, Compass: compass, Slope: slope}
				forth, one := impl.ShiftOf(x)
				if !one || forth != ruledShift(x) {
					t.Fatalf("ShiftOf(%v) = %v, %v, not %v", x, forth, one, ruledShift(x))
				}
				r, two := impl.ReverseLeg(x)
				back, three := impl.ShiftOf(r)
				if !two || !three || back != opposite(forth) {
					t.Fatalf("the reverse %v of %v has the shift %v, not %v", r, x, back, opposite(forth))
				}
			}
		}
	}
}

func TestTheShiftOfTheReverseIsTheOppositeForAllTapes(t *testing.T) {
	n := numbers{5}
	for tape := 1; tape <= impl.MaxTape; tape++ {
		for range 40 {
			x := n.leg()
			x.Tape = tape
			forth, one := impl.ShiftOf(x)
			r, two := impl.ReverseLeg(x)
			back, three := impl.ShiftOf(r)
			if !one || !two || !three || forth != ruledShift(x) || back != opposite(forth) {
				t.Errorf("%v has the shift %v, %v, and its reverse %v, %v, %v", x, forth, one, back, two, three)
			}
		}
	}
}

func TestReverseLegAtKnownLegs(t *testing.T) {
	cases := []struct{ x, want impl.Leg }{
		{impl.Leg{From: 0, To: 1, Tape: 100, Compass: 180, Slope: -30}, impl.Leg{From: 1, To: 0, Tape: 100, Compass: 0, Slope: 30}},
		{impl.Leg{From: 7, To: 0, Tape: 500, Compass: 0, Slope: 0}, impl.Leg{From: 0, To: 7, Tape: 500, Compass: 180, Slope: 0}},
		{impl.Leg{From: 3, To: 4, Tape: 1, Compass: 179, Slope: 90}, impl.Leg{From: 4, To: 3, Tape: 1, Compass: 359, Slope: -90}},
		{impl.Leg{From: 4, To: 3, Tape: 2, Compass: 359, Slope: -90}, impl.Leg{From: 3, To: 4, Tape: 2, Compass: 179, Slope: 90}},
		{impl.Leg{From: 2, To: 6, Tape: 77, Compass: 181, Slope: 1}, impl.Leg{From: 6, To: 2, Tape: 77, Compass: 1, Slope: -1}},
	}
	for _, c := range cases {
		if r, ok := impl.ReverseLeg(c.x); !ok || r != c.want {
			t.Errorf("ReverseLeg(%v) = %v, %v, not %v", c.x, r, ok, c.want)
		}
	}
}

func TestReversingTwiceGivesTheLegItself(t *testing.T) {
	n := numbers{6}
	for compass := range 360 {
		for slope := -90; slope <= 90; slope++ {
			x := n.leg()
			x.Compass, x.Slope = compass, slope
			r, one := impl.ReverseLeg(x)
			back, two := impl.ReverseLeg(r)
			if !one || !two || back != x || r == x {
				t.Fatalf("%v is reversed to %v, and this to %v", x, r, back)
			}
		}
	}
}

func TestInvalidLegsAreRefused(t *testing.T) {
	for _, x := range spoiltLegs() {
		if impl.IsLeg(x) {
			t.Errorf("IsLeg(%v)", x)
		}
		if s, ok := impl.ShiftOf(x); ok || s != (impl.Shift{}) {
			t.Errorf("ShiftOf(%v) = %v, %v", x, s, ok)
		}
		if r, ok := impl.ReverseLeg(x); ok || r != (impl.Leg{}) {
			t.Errorf("ReverseLeg(%v) = %v, %v", x, r, ok)
		}
		if s, ok := impl.LegText(x); ok || s != "" {
			t.Errorf("LegText(%v) = %q, %v", x, s, ok)
		}
		if agree, ok := impl.DoAgree(x, x, 360, 1000); ok || agree {
			t.Errorf("DoAgree of %v with itself = %v, %v", x, agree, ok)
		}
	}
}

func checkAgree(t *testing.T, a, b impl.Leg, degrees, tape int, want bool) {
	t.Helper()
	if agree, ok := impl.DoAgree(a, b, degrees, tape); !ok || agree != want {
		t.Errorf("DoAgree(%v, %v, %d, %d) = %v, %v, not %v", a, b, degrees, tape, agree, ok, want)
	}
}

// checkLimits checks that two Legs agree just with a turn or a difference of Slopes of degrees
// and a difference of Tapes of tape, whichever of them is named first and led forth or back.
func checkLimits(t *testing.T, a, b impl.Leg, degrees, tape int) {
	t.Helper()
	ra, _ := impl.ReverseLeg(a)
	rb, _ := impl.ReverseLeg(b)
	for _, pair := range [][2]impl.Leg{{a, b}, {b, a}, {a, rb}, {rb, a}, {ra, b}, {b, ra}, {ra, rb}, {rb, ra}} {
		checkAgree(t, pair[0], pair[1], degrees, tape, true)
		checkAgree(t, pair[0], pair[1], degrees+1, tape+1, true)
		checkAgree(t, pair[0], pair[1], math.MaxInt, math.MaxInt, true)
		if degrees > 0 {
			checkAgree(t, pair[0], pair[1], degrees-1, tape, false)
			checkAgree(t, pair[0], pair[1], degrees-1, math.MaxInt, false)
		}
		if tape > 0 {
			checkAgree(t, pair[0], pair[1], degrees, tape-1, false)
			checkAgree(t, pair[0], pair[1], math.MaxInt, tape-1, false)
		}
	}
}

func TestDoAgreeAtTheNumbersGiven(t *testing.T) {
	a := impl.Leg{From: 2, To: 5, Tape: 100, Compass: 40, Slope: 10}
	cases := []struct{ tape, compass, slope, degrees, difference int }{
		{100, 40, 10, 0, 0}, {101, 40, 10, 0, 1}, {97, 40, 10, 0, 3}, {500, 40, 10, 0, 400}, {1, 40, 10, 0, 99},
		{100, 43, 10, 3, 0}, {100, 38, 10, 2, 0}, {100, 40, 14, 4, 0}, {100, 40, 5, 5, 0}, {100, 40, -10, 20, 0}, {100, 40, 90, 80, 0}, {100, 40, -90, 100, 0},
		// The greater one of turn and difference counts.
		{100, 43, 11, 3, 0}, {100, 41, 13, 3, 0}, {100, 37, 7, 3, 0}, {102, 45, 4, 6, 2}, {98, 30, 19, 10, 2},
		// Turns across north, and the greatest ones.
		{100, 350, 10, 50, 0}, {100, 359, 10, 41, 0}, {100, 0, 10, 40, 0}, {100, 219, 10, 179, 0}, {100, 220, 10, 180, 0}, {100, 221, 10, 179, 0},
	}
	for _, c := range cases {
		b := impl.Leg{From: 2, To: 5, Tape: c.tape, Compass: c.compass, Slope: c.slope}
		checkLimits(t, a, b, c.degrees, c.difference)
	}
	north := impl.Leg{From: 7, To: 0, Tape: 30, Compass: 359, Slope: 0}
	checkLimits(t, north, impl.Leg{From: 7, To: 0, Tape: 30, Compass: 1, Slope: 0}, 2, 0)
	checkLimits(t, north, impl.Leg{From: 7, To: 0, Tape: 33, Compass: 0, Slope: -1}, 1, 3)
	checkLimits(t, north, impl.Leg{From: 0, To: 7, Tape: 30, Compass: 181, Slope: 0}, 2, 0)
	checkLimits(t, north, impl.Leg{From: 0, To: 7, Tape: 30, Compass: 359, Slope: 0}, 180, 0)
}

// TestDoAgreeOfVerticalLegs: the turn counts for legs that lead straight down as well, and only
// the reverse of one of them leads straight up.
func TestDoAgreeOfVerticalLegs(t *testing.T) {
	down := impl.Leg{From: 0, To: 1, Tape: 80, Compass: 20, Slope: -90}
	checkLimits(t, down, impl.Leg{From: 1, To: 0, Tape: 80, Compass: 200, Slope: 90}, 0, 0)
	checkLimits(t, down, impl.Leg{From: 1, To: 0, Tape: 80, Compass: 20, Slope: 90}, 180, 0)
	checkLimits(t, down, impl.Leg{From: 1, To: 0, Tape: 80, Compass: 200, Slope: -90}, 180, 0)
	checkLimits(t, down, impl.Leg{From: 0, To: 1, Tape: 80, Compass: 25, Slope: -90}, 5, 0)
	checkLimits(t, down, impl.Leg{From: 0, To: 1, Tape: 81, Compass: 20, Slope: -88}, 2, 1)
}

func TestDoAgreeOfManyLegs(t *testing.T) {
	n := numbers{7}
	for range 3000 {
		a, b := n.leg(), n.leg()
		b.From, b.To = a.From, a.To
		turn := max(a.Compass, b.Compass) - min(a.Compass, b.Compass)
		degrees := max(min(turn, 360-turn), a.Slope-b.Slope, b.Slope-a.Slope)
		checkLimits(t, a, b, degrees, max(a.Tape-b.Tape, b.Tape-a.Tape))
	}
}

func TestDoAgreeRefuses(t *testing.T) {
	good := impl.Leg{From: 2, To: 3, Tape: 40, Compass: 50, Slope: 6}
	refuse := func(a, b impl.Leg, degrees, tape int) {
		t.Helper()
		if agree, ok := impl.DoAgree(a, b, degrees, tape); ok || agree {
			t.Errorf("DoAgree(%v, %v, %d, %d) = %v, %v", a, b, degrees, tape, agree, ok)
		}
	}
	for _, n := range []int{-1, -2, -360, math.MinInt} {
		refuse(good, good, n, 0)
		refuse(good, good, 0, n)
		refuse(good, good, n, n)
		refuse(good, good, n, math.MaxInt)
	}
	for _, x := range spoiltLegs() {
		refuse(good, x, 360, 1000)
		refuse(x, good, 360, 1000)
	}
	for _, stations := range [][2]int{{2, 4}, {4, 3}, {3, 4}, {4, 2}, {0, 1}, {0, 3}, {2, 0}, {7, 6}} {
		other := good
		other.From, other.To = stations[0], stations[1]
		refuse(good, other, 360, 1000)
		refuse(other, good, 360, 1000)
	}
	checkAgree(t, good, good, 0, 0, true)
}

// thereAndBack are n legs, in turn from one of two stations to the other one and back.
func thereAndBack(n int) []impl.Leg {
	stations := []int{}
	for i := range n + 1 {
		stations = append(stations, i%2)
	}
	return legsBetween(stations...)
}

func TestLegsLengthAtTheLimits(t *testing.T) {
	cases := []struct {
		legs []impl.Leg
		want int
	}{
		{nil, 0}, {[]impl.Leg{}, 0}, {legsBetween(0, 1), 10}, {legsBetween(5, 2, 5), 30}, {legsBetween(7, 0, 1, 2), 60},
		{thereAndBack(impl.MaxLegs - 1), 660}, {thereAndBack(impl.MaxLegs), 780},
		{[]impl.Leg{{From: 0, To: 1, Tape: 500}, {From: 6, To: 5, Tape: 1}, {From: 0, To: 1, Tape: 500}}, 1001},
	}
	for _, c := range cases {
		if n, ok := impl.LegsLength(c.legs); !ok || n != c.want {
			t.Errorf("LegsLength(%v) = %d, %v, not %d", c.legs, n, ok, c.want)
		}
	}
	longest := slices.Repeat([]impl.Leg{{From: 0, To: 1, Tape: impl.MaxTape}}, impl.MaxLegs)
	if n, ok := impl.LegsLength(longest); !ok || n != 6000 {
		t.Error("the longest legs:", n, ok)
	}
}

// TestListsOfLegsAreRefused has lists that are one too long, far too long, or that have one
// invalid Leg at each place; a Tape that is too long leaves the chain unbroken.
func TestListsOfLegsAreRefused(t *testing.T) {
	lists := [][]impl.Leg{thereAndBack(impl.MaxLegs + 1), thereAndBack(1000)}
	for _, x := range spoiltLegs() {
		lists = append(lists, []impl.Leg{x})
		for i := range impl.MaxLegs {
			list := thereAndBack(impl.MaxLegs)
			list[i] = x
			lists = append(lists, list)
		}
	}
	for i := range impl.MaxLegs {
		list := thereAndBack(impl.MaxLegs)
		list[i].Tape = 501
		lists = append(lists, list)
	}
	for _, list := range lists {
		if n, ok := impl.LegsLength(list); ok || n != 0 {
			t.Errorf("LegsLength(%v) = %d, %v", list, n, ok)
		}
		for station := range impl.MaxStations {
			if indices, ok := impl.LegsAt(list, station); ok || len(indices) != 0 {
				t.Errorf("LegsAt(%v, %d) = %v, %v", list, station, indices, ok)
			}
		}
		if s, ok := impl.ChainShift(list); ok || s != (impl.Shift{}) {
			t.Errorf("ChainShift(%v) = %v, %v", list, s, ok)
		}
	}
}

func TestLegsAtEachStation(t *testing.T) {
	legs := append(legsBetween(0, 1, 2, 0, 7), legsBetween(2, 1)...)
	cases := []struct {
		legs    []impl.Leg
		station int
		want    []int
	}{
		{legs, 0, []int{0, 2, 3}}, {legs, 1, []int{0, 1, 4}}, {legs, 2, []int{1, 2, 4}}, {legs, 7, []int{3}},
		// Stations without Legs.
		{legs, 3, nil}, {legs, 6, nil}, {nil, 0, nil}, {nil, 7, nil}, {[]impl.Leg{}, 4, nil}, {legsBetween(3, 4), 0, nil},
		{legsBetween(3, 4), 3, []int{0}}, {legsBetween(3, 4), 4, []int{0}}, {thereAndBack(3), 0, []int{0, 1, 2}},
		{thereAndBack(impl.MaxLegs), 1, []int{0, 1, 2, 3, 4, 5, 6, 7, 8, 9, 10, 11}}, {thereAndBack(impl.MaxLegs), 2, nil},
	}
	for _, c := range cases {
		if indices, ok := impl.LegsAt(c.legs, c.station); !ok || !slices.Equal(indices, c.want) {
			t.Errorf("LegsAt(%v, %d) = %v, %v, not %v", c.legs, c.station, indices, ok, c.want)
		}
	}
}

func TestLegsAtRefusesNumbersThatAreNoStation(t *testing.T) {
	for _, station := range []int{-1, impl.MaxStations, impl.MaxStations + 1, -8, math.MaxInt, math.MinInt} {
		for _, legs := range [][]impl.Leg{nil, legsBetween(0, 1, 7), thereAndBack(impl.MaxLegs)} {
			if indices, ok := impl.LegsAt(legs, station); ok || len(indices) != 0 {
				t.Errorf("LegsAt(%v, %d) = %v, %v", legs, station, indices, ok)
			}
		}
	}
}

// checkChain checks that the Shift of a chain is the sum of those of its Legs.
func checkChain(t *testing.T, chain []impl.Leg) {
	t.Helper()
	want := impl.Shift{}
	for _, x := range chain {
		s := ruledShift(x)
		want = impl.Shift{East: want.East + s.East, North: want.North + s.North, Up: want.Up + s.Up}
	}
	if s, ok := impl.ChainShift(chain); !ok || s != want {
		t.Errorf("ChainShift(%v) = %v, %v, not %v", chain, s, ok, want)
	}
}

func TestChainShiftAtKnownChains(t *testing.T) {
	east, north := impl.Leg{From: 0, To: 1, Tape: 100, Compass: 90}, impl.Leg{From: 1, To: 2, Tape: 50}
	down := impl.Leg{From: 2, To: 3, Tape: 70, Compass: 123, Slope: -90}
	cases := []struct {
		chain []impl.Leg
		want  impl.Shift
	}{
		{nil, impl.Shift{}}, {[]impl.Leg{}, impl.Shift{}}, {[]impl.Leg{east}, impl.Shift{East: 100}}, {[]impl.Leg{down}, impl.Shift{Up: -70}},
		{[]impl.Leg{east, north}, impl.Shift{East: 100, North: 50}}, {[]impl.Leg{north, down}, impl.Shift{North: 50, Up: -70}},
		{[]impl.Leg{east, north, down}, impl.Shift{East: 100, North: 50, Up: -70}},
		{[]impl.Leg{east, {From: 1, To: 0, Tape: 100, Compass: 270}, east}, impl.Shift{East: 100}},
	}
	for _, c := range cases {
		if s, ok := impl.ChainShift(c.chain); !ok || s != c.want {
			t.Errorf("ChainShift(%v) = %v, %v, not %v", c.chain, s, ok, c.want)
		}
		checkChain(t, c.chain)
	}
}

func TestChainShiftIsTheSumOfItsParts(t *testing.T) {
	n := numbers{8}
	for range 2000 {
		chain := []impl.Leg{n.leg()}
		for len(chain) < impl.MaxLegs {
			x := n.leg()
			x.From = chain[len(chain)-1].To
			x.To = (x.From + n.within(1, impl.MaxStations-1)) % impl.MaxStations
			chain = append(chain, x)
		}
		checkChain(t, chain[:n.within(0, impl.MaxLegs)])
		checkChain(t, chain)
	}
}

// TestChainThereAndBackHasNoShift: a chain that goes back all the way that it came.
func TestChainThereAndBackHasNoShift(t *testing.T) {
	n := numbers{9}
	for range 500 {
		x, chain := n.leg(), []impl.Leg{}
		for range impl.MaxLegs / 2 {
			r, _ := impl.ReverseLeg(x)
			chain = append(chain, x, r)
		}
		if s, ok := impl.ChainShift(chain); !ok || s != (impl.Shift{}) {
			t.Errorf("ChainShift(%v) = %v, %v", chain, s, ok)
		}
	}
}

func TestChainShiftRefusesLegsThatDoNotFollow(t *testing.T) {
	chains := [][]impl.Leg{
		append(legsBetween(1, 2), legsBetween(0, 1)...), append(legsBetween(0, 1), legsBetween(0, 1)...),
		append(legsBetween(0, 1), legsBetween(2, 1)...), append(legsBetween(0, 1), legsBetween(2, 3)...),
		append(legsBetween(0, 1), legsBetween(2, 0)...), append(legsBetween(0, 1, 2, 3), legsBetween(4, 5)...),
		append(legsBetween(0, 1, 2), legsBetween(1, 2, 3)...),
	}
	for i := range impl.MaxLegs {
		chain := thereAndBack(impl.MaxLegs)
		chain[i].From, chain[i].To = chain[i].To, chain[i].From
		chains = append(chains, chain)
	}
	for _, chain := range chains {
		if s, ok := impl.ChainShift(chain); ok || s != (impl.Shift{}) {
			t.Errorf("ChainShift(%v) = %v, %v", chain, s, ok)
		}
	}
}

var legTexts = []struct {
	x    impl.Leg
	text string
}{
	{impl.Leg{From: 0, To: 1, Tape: 120, Compass: 90, Slope: -5}, "leg 0-1 tape 120 compass 90 slope -5"},
	{impl.Leg{From: 0, To: 1, Tape: 120, Compass: 90, Slope: 5}, "leg 0-1 tape 120 compass 90 slope 5"},
	{impl.Leg{From: 0, To: 1, Tape: 120, Compass: 90, Slope: 0}, "leg 0-1 tape 120 compass 90 slope 0"},
	{impl.Leg{From: 7, To: 0, Tape: 500, Compass: 359, Slope: 90}, "leg 7-0 tape 500 compass 359 slope 90"},
	{impl.Leg{From: 6, To: 7, Tape: 1, Compass: 0, Slope: -90}, "leg 6-7 tape 1 compass 0 slope -90"},
	{impl.Leg{From: 3, To: 2, Tape: 10, Compass: 100, Slope: -10}, "leg 3-2 tape 10 compass 100 slope -10"},
}

func TestLegTextAtKnownLegs(t *testing.T) {
	for _, c := range legTexts {
		if s, ok := impl.LegText(c.x); !ok || s != c.text {
			t.Errorf("LegText(%v) = %q, %v", c.x, s, ok)
		}
		if x, ok := impl.ParseLeg(c.text); !ok || x != c.x {
			t.Errorf("ParseLeg(%q) = %v, %v", c.text, x, ok)
		}
	}
}

func checkText(t *testing.T, x impl.Leg) {
	t.Helper()
	want := "leg " + strconv.Itoa(x.From) + "-" + strconv.Itoa(x.To) + " tape " + strconv.Itoa(x.Tape) +
		" compass " + strconv.Itoa(x.Compass) + " slope " + strconv.Itoa(x.Slope)
	s, ok := impl.LegText(x)
	if !ok || s != want {
		t.Errorf("LegText(%v) = %q, %v, not %q", x, s, ok, want)
	}
	if back, ok := impl.ParseLeg(s); !ok || back != x {
		t.Errorf("ParseLeg(%q) = %v, %v", s, back, ok)
	}
}

func TestLegsAreRecoveredFromTheirTexts(t *testing.T) {
	n := numbers{10}
	for compass := range 360 {
		for slope := -90; slope <= 90; slope++ {
			x := n.leg()
			x.Compass, x.Slope = compass, slope
			checkText(t, x)
		}
	}
	for tape := 1; tape <= impl.MaxTape; tape++ {
		checkText(t, impl.Leg{From: 5, To: 4, Tape: tape, Compass: 1, Slope: 1})
	}
	for from := range impl.MaxStations {
		for to := range impl.MaxStations {
			if from != to {
				checkText(t, impl.Leg{From: from, To: to, Tape: 9, Compass: 9, Slope: -9})
			}
		}
	}
}

func TestParseLegRefusesOtherTexts(t *testing.T) {
	texts := []string{
		"", " ", "leg", "leg ", "leg 0-1", "leg 0-1 tape 120", "leg 0-1 tape 120 compass 90", "leg 0-1 tape 120 compass 90 slope", "leg 0-1 tape 120 compass 90 slope ",
		// Leading zeros and other spellings of numbers.
		"leg 00-1 tape 120 compass 90 slope -5", "leg 0-01 tape 120 compass 90 slope -5", "leg 0-1 tape 0120 compass 90 slope -5",
		"leg 0-1 tape 120 compass 090 slope -5", "leg 0-1 tape 120 compass 90 slope -05", "leg 0-1 tape 120 compass 90 slope 05",
		"leg 0-1 tape 120 compass 00 slope -5", "leg 0-1 tape 120 compass 90 slope 00", "leg 0-1 tape +120 compass 90 slope -5",
		"leg 0-1 tape 120 compass 90 slope +5", "leg 0-1 tape 120 compass 90 slope -0", "leg 0-1 tape 120 compass 90 slope +0",
		"leg 0-1 tape 120 compass -0 slope 5", "leg -0-1 tape 120 compass 90 slope 5", "leg 1--0 tape 120 compass 90 slope 5",
		"leg 0-1 tape 120.0 compass 90 slope 5", "leg 0-1 tape 0x7 compass 90 slope 5", "leg 0-1 tape 1_2 compass 90 slope 5",
		"leg 0-1 tape x compass 90 slope 5", "leg 0-1 tape  compass 90 slope 5", "leg 0-1 tape 120 compass 90 slope --5",
		"leg 0-1 tape 120 compass 90 slope \u22125", "leg 0-1 tape \u0661 compass 90 slope 5", "leg 0-1 tape 120 compass 90 slope -",
		// Words missing, doubled, exchanged or others.
		"0-1 tape 120 compass 90 slope -5", "leg tape 120 compass 90 slope -5", "leg 0-1 120 compass 90 slope -5", "leg 0-1 tape compass 90 slope -5",
		"leg 0-1 tape 120 90 slope -5", "leg 0-1 tape 120 compass slope -5", "leg 0-1 tape 120 compass 90 -5", "leg leg 0-1 tape 120 compass 90 slope -5",
		"leg 0-1 compass 90 tape 120 slope -5", "leg 0-1 tape 120 slope -5 compass 90", "Leg 0-1 tape 120 compass 90 slope -5",
		"lag 0-1 tape 120 compass 90 slope -5", "leg 0-1 tapes 120 compass 90 slope -5", "leg 0-1 tape 120 COMPASS 90 slope -5",
		"leg 0-1 tape 120 compass 90 slop -5", "leg 0-1 tape 120 compass 90 slope- 5", "legs 0-1 tape 120 compass 90 slope -5", " 0-1 tape 120 compass 90 slope -5",
		"leg 0-1  120 compass 90 slope -5", "leg 0-1 slope 120 tape 90 compass -5", "tape 0-1 tape 120 compass 90 slope -5",
		// Other signs between the stations.
		"leg 0 1 tape 120 compass 90 slope -5", "leg 01 tape 120 compass 90 slope -5", "leg 0--1 tape 120 compass 90 slope -5", "leg 0-1- tape 120 compass 90 slope -5",
		"leg -0-1 tape 120 compass 90 slope -5", "leg 0+1 tape 120 compass 90 slope -5", "leg 0-1-2 tape 120 compass 90 slope -5", "leg 0- tape 120 compass 90 slope -5",
		"leg -1 tape 120 compass 90 slope -5", "leg - tape 120 compass 90 slope -5", "leg 0 - 1 tape 120 compass 90 slope -5", "leg 0- 1 tape 120 compass 90 slope -5",
		// Spaces and trailing bytes.
		" leg 0-1 tape 120 compass 90 slope -5", "leg  0-1 tape 120 compass 90 slope -5", "leg 0-1  tape 120 compass 90 slope -5",
		"leg 0-1 tape  120 compass 90 slope -5", "leg 0-1 tape 120  compass 90 slope -5", "leg 0-1 tape 120 compass  90 slope -5",
		"leg 0-1 tape 120 compass 90  slope -5", "leg 0-1 tape 120 compass 90 slope  -5", "leg 0-1 tape 120 compass 90 slope -5 ",
		"leg 0-1 tape 120 compass 90 slope -5\n", "leg 0-1 tape 120 compass 90 slope -5\x00", "leg 0-1 tape 120 compass 90 slope -5 x",
		"leg 0-1 tape 120 compass 90 slope -5x", "leg 0-1 tape 120 compass 90 slope -5 0", "leg\t0-1 tape 120 compass 90 slope -5", "\nleg 0-1 tape 120 compass 90 slope -5",
		"leg\u00a00-1 tape 120 compass 90 slope -5", "leg 0-1 tape 120 compass 90 slope -5leg 0-1 tape 120 compass 90 slope -5",
		// Numbers out of bounds.
		"leg 8-1 tape 120 compass 90 slope -5", "leg 0-8 tape 120 compass 90 slope -5", "leg 10-1 tape 120 compass 90 slope -5", "leg 0-0 tape 120 compass 90 slope -5",
		"leg 4-4 tape 120 compass 90 slope -5", "leg 0-1 tape 0 compass 90 slope -5", "leg 0-1 tape -1 compass 90 slope -5", "leg 0-1 tape 501 compass 90 slope -5",
		"leg 0-1 tape 120 compass 360 slope -5", "leg 0-1 tape 120 compass -1 slope -5", "leg 0-1 tape 120 compass 90 slope -91", "leg 0-1 tape 120 compass 90 slope 91",
		"leg 0-1 tape 1000000 compass 90 slope -5", "leg 0-1 tape 18446744073709551617 compass 90 slope -5", "leg 0-1 tape 120 compass 90 slope 18446744073709551616",
		"leg 0-1 tape 120 compass 90 slope -5" + strings.Repeat(" ", impl.MaxString),
	}
	for _, s := range texts {
		if x, ok := impl.ParseLeg(s); ok || x != (impl.Leg{}) {
			t.Errorf("ParseLeg(%q) = %v, %v", s, x, ok)
		}
	}
}

// checkParsed checks that a Leg that is told for a text has just this text.
func checkParsed(t *testing.T, s string) {
	t.Helper()
	x, ok := impl.ParseLeg(s)
	if !ok {
		if x != (impl.Leg{}) {
			t.Errorf("ParseLeg(%q) = %v with false", s, x)
		}
		return
	}
	if text, fine := impl.LegText(x); !fine || text != s || !ruledLeg(x) {
		t.Errorf("ParseLeg(%q) = %v, which has the text %q, %v", s, x, text, fine)
	}
}

// TestParseLegOfChangedTexts changes, leaves out and adds each byte at each place.
func TestParseLegOfChangedTexts(t *testing.T) {
	for _, c := range legTexts {
		for i := range len(c.text) + 1 {
			for b := range 256 {
				checkParsed(t, c.text[:i]+string([]byte{byte(b)})+c.text[i:])
				if i < len(c.text) {
					checkParsed(t, c.text[:i]+string([]byte{byte(b)})+c.text[i+1:])
				}
			}
			checkParsed(t, c.text[:i])
			checkParsed(t, c.text[i:])
			if i < len(c.text) {
				checkParsed(t, c.text[:i]+c.text[i+1:])
			}
		}
	}
	for _, s := range oddStrings() {
		if x, ok := impl.ParseLeg(s); ok || x != (impl.Leg{}) {
			t.Errorf("ParseLeg of %d bytes = %v, %v", len(s), x, ok)
		}
	}
}

// legNumbers are at and around the limits of the fields, and far beyond.
var legNumbers = []int{math.MinInt, -91, -90, -1, 0, 1, 7, 8, 90, 91, 359, 360, 500, 501, math.MaxInt}

func oddLegs() []impl.Leg {
	list := []impl.Leg{}
	for _, from := range []int{math.MinInt, -1, 0, 1, 7, 8, math.MaxInt} {
		for _, to := range []int{math.MinInt, -1, 0, 7, 8, math.MaxInt} {
			for _, tape := range legNumbers {
				for _, compass := range legNumbers {
					for _, slope := range legNumbers {
						list = append(list, impl.Leg{From: from, To: to, Tape: tape, Compass: compass, Slope: slope})
					}
				}
			}
		}
	}
	return list
}

func TestLegFunctionsReturnForAllArguments(t *testing.T) {
	for i, x := range oddLegs() {
		valid := ruledLeg(x)
		s, shifted := impl.ShiftOf(x)
		r, turned := impl.ReverseLeg(x)
		text, told := impl.LegText(x)
		if impl.IsLeg(x) != valid || shifted != valid || turned != valid || told != valid {
			t.Errorf("%v: %v, %v, %v, not %v", x, shifted, turned, told, valid)
		}
		if !valid && (s != impl.Shift{} || r != impl.Leg{} || text != "") {
			t.Errorf("%v: %v, %v, %q with false", x, s, r, text)
		}
		length, measured := impl.LegsLength([]impl.Leg{x})
		whole, chained := impl.ChainShift([]impl.Leg{x})
		if measured != valid || chained != valid || whole != s || !valid && length != 0 || valid && length != x.Tape {
			t.Errorf("%v alone: %d, %v, %v, %v", x, length, measured, whole, chained)
		}
		station, number := legNumbers[i%len(legNumbers)], legNumbers[i%13]
		indices, found := impl.LegsAt([]impl.Leg{x}, station)
		isEnd := valid && (station == x.From || station == x.To)
		if found != (valid && station >= 0 && station <= 7) || slices.Equal(indices, []int{0}) != isEnd {
			t.Errorf("LegsAt([%v], %d) = %v, %v", x, station, indices, found)
		}
		agree, compared := impl.DoAgree(x, x, number, station)
		if fine := valid && number >= 0 && station >= 0; compared != fine || agree != fine {
			t.Errorf("DoAgree of %v with itself, %d, %d = %v, %v", x, number, station, agree, compared)
		}
	}
}

func TestLegFunctionsLeaveTheirLists(t *testing.T) {
	// Behind the length of a list there is something that is neither read nor written.
	legs := append(legsBetween(0, 1, 2, 3, 1), impl.Leg{From: -7, To: 77, Tape: 777})[:4]
	before := slices.Clone(legs[:5])
	if n, ok := impl.LegsLength(legs); !ok || n != 100 {
		t.Error("LegsLength", n, ok)
	}
	indices, ok := impl.LegsAt(legs, 1)
	if !ok || !slices.Equal(indices, []int{0, 1, 3}) {
		t.Error("LegsAt", indices, ok)
	}
	checkChain(t, legs)
	if !slices.Equal(legs[:5], before) {
		t.Error("the list was modified", legs[:5])
	}
	indices[0] = 99
	if again, ok := impl.LegsAt(legs, 1); !ok || !slices.Equal(again, []int{0, 1, 3}) {
		t.Error("LegsAt after its result was written to", again, ok)
	}
	if !slices.Equal(legs[:5], before) {
		t.Error("the list shares memory with a result", legs[:5])
	}
}
