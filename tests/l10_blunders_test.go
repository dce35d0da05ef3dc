package tests

import (
	"math"
	"math/big"
	"math/bits"
	"slices"
	"testing"

	"loop.example/g00933/impl"
)

var fixes = []int{impl.FixBack, impl.FixSlope, impl.FixLonger, impl.FixShorter}

var badFixes = []int{0, -1, 5, -2, 6, -4, 8, 1<<32 + 1, math.MinInt, math.MaxInt}

// ruledStrains is found without residuals: the strain times the number of trees is the sum of
// the squares of the misclosures of all rings, which are the sets of placed Legs by which all
// placed stations hang together and which have one loop. Legs are told by bits, and neither trees
// nor rings depend on tapes and angles.
type ruledStrains struct {
	legs   []impl.Leg
	net    ruledNetwork
	placed []int
	trees  []uint
	rings  []ruledRing
}

// ruledRing has 1 and -1 for the Legs that the loop goes along, and against whose direction.
type ruledRing struct {
	set    uint
	senses [impl.MaxLegs]int
}

func ruledStrainsOf(legs []impl.Leg) ruledStrains {
	s := ruledStrains{legs: legs, net: ruledNetworkOf(legs)}
	s.placed = append(slices.Clone(s.net.tree), s.net.closing...)
	slices.Sort(s.placed)
	for chosen := range uint(1) << len(s.placed) {
		if more := bits.OnesCount(chosen) - len(s.net.tree); more == 0 || more == 1 {
			s.addSet(chosen)
		}
	}
	return s
}

// addSet takes the set of the placed Legs with the chosen bits if it is a tree or a ring.
func (s *ruledStrains) addSet(chosen uint) {
	some, indices, set := []impl.Leg{}, []int{}, uint(0)
	for k, leg := range s.placed {
		if chosen>>k%2 == 1 {
			some, indices, set = append(some, s.legs[leg]), append(indices, leg), set|1<<leg
		}
	}
	alone := ruledNetworkOf(some)
	if len(alone.places) != len(s.net.places) {
		return
	}
	if len(alone.closing) == 0 {
		s.trees = append(s.trees, set)
		return
	}
	loop, ring := ruledLoopOf(some, alone, alone.closing[0]), ruledRing{set: set}
	for k, i := range loop.legs {
		ring.senses[indices[i]] = 1
		if some[i].To == loop.stations[k] {
			ring.senses[indices[i]] = -1
		}
	}
	s.rings = append(s.rings, ring)
}

// strain is that of Legs between the same stations without those of a set; it has none if the
// placed stations do not hang together without them.
func (s ruledStrains) strain(legs []impl.Leg, without uint) (*big.Rat, bool) {
	shifts, trees, sum := []impl.Shift{}, 0, 0
	for _, x := range legs {
		shifts = append(shifts, ruledShift(x))
	}
	for _, set := range s.trees {
		if set&without == 0 {
			trees++
		}
	}
	for _, ring := range s.rings {
		if ring.set&without != 0 {
			continue
		}
		missed := impl.Shift{}
		for i, shift := range shifts {
			sense := ring.senses[i]
			missed = plus(missed, impl.Shift{East: sense * shift.East, North: sense * shift.North, Up: sense * shift.Up})
		}
		sum += missed.East*missed.East + missed.North*missed.North + missed.Up*missed.Up
	}
	if trees == 0 {
		return nil, false
	}
	return fraction(sum, trees), true
}

// whole is the strain of all of the Legs, which always have one.
func (s ruledStrains) whole(legs []impl.Leg) *big.Rat {
	strain, _ := s.strain(legs, 0)
	return strain
}

// suspects are the placed Legs that are no bridges, those without which the strain is smaller
// first.
func (s ruledStrains) suspects() []int {
	left := map[int]*big.Rat{}
	for _, leg := range s.placed {
		if strain, ok := s.strain(s.legs, 1<<leg); ok {
			left[leg] = strain
		}
	}
	list := slices.DeleteFunc(slices.Clone(s.placed), func(leg int) bool { return left[leg] == nil })
	slices.SortStableFunc(list, func(a, b int) int { return left[a].Cmp(left[b]) })
	return list
}

func ruledFix(x impl.Leg, fix int) (impl.Leg, bool) {
	y := x
	switch {
	case fix == 1 && x.Compass < 180:
		y.Compass = x.Compass + 180
	case fix == 1:
		y.Compass = x.Compass - 180
	case fix == 2:
		y.Slope = 0 - x.Slope
	case fix == 3:
		y.Tape = x.Tape + 100
	case fix == 4:
		y.Tape = x.Tape - 100
	}
	return y, fix >= 1 && fix <= 4 && ruledLeg(y)
}

func fixedList(legs []impl.Leg, leg, fix int) ([]impl.Leg, bool) {
	y, ok := ruledFix(legs[leg], fix)
	return slices.Replace(slices.Clone(legs), leg, leg+1, y), ok
}

// ruledChoice is a fix that is possible, and the strain after it.
type ruledChoice struct {
	leg, fix int
	strain   *big.Rat
}

// choices are all fixes that make the strain smaller, those that make it smallest first.
func (s ruledStrains) choices(legs []impl.Leg) []ruledChoice {
	list, before := []ruledChoice{}, s.whole(legs)
	for _, leg := range s.placed {
		for _, fix := range fixes {
			after, ok := fixedList(legs, leg, fix)
			if !ok {
				continue
			}
			if strain := s.whole(after); strain.Cmp(before) < 0 {
				list = append(list, ruledChoice{leg, fix, strain})
			}
		}
	}
	slices.SortStableFunc(list, func(a, b ruledChoice) int { return a.strain.Cmp(b.strain) })
	return list
}

// cleaned also tells the fixes that are made.
func (s ruledStrains) cleaned() ([]impl.Leg, []ruledChoice) {
	legs, made := s.legs, []ruledChoice{}
	for range 3 {
		choices := s.choices(legs)
		if len(choices) == 0 {
			break
		}
		made = append(made, choices[0])
		legs, _ = fixedList(legs, choices[0].leg, choices[0].fix)
	}
	return legs, made
}

func checkStrain(t *testing.T, legs []impl.Leg, want *big.Rat) {
	t.Helper()
	num, den, ok := impl.StrainOf(legs)
	checkFraction(t, "StrainOf", legs, num, den, ok, want)
}

// checkWithout also checks that the strain is no greater than that of all Legs.
func checkWithout(t *testing.T, legs []impl.Leg, leg int, want *big.Rat) {
	t.Helper()
	num, den, ok := impl.StrainWithout(legs, leg)
	checkFraction(t, "StrainWithout", legs, num, den, ok, want)
	whole, wholeDen, _ := impl.StrainOf(legs)
	if ok && fraction(num, den).Cmp(fraction(whole, wholeDen)) > 0 {
		t.Errorf("%v: without %d the strain is %d / %d, with it only %d / %d", legs, leg, num, den, whole, wholeDen)
	}
	if order, ok := impl.CompareStrains(slices.Delete(slices.Clone(legs), leg, leg+1), legs); !ok || order > 0 {
		t.Errorf("%v: without %d the strain is compared as %d, %v", legs, leg, order, ok)
	}
}

func checkNoWithout(t *testing.T, legs []impl.Leg, leg int) {
	t.Helper()
	if num, den, ok := impl.StrainWithout(legs, leg); ok || num != 0 || den != 0 {
		t.Errorf("StrainWithout(%v, %d) = %d, %d, %v", legs, leg, num, den, ok)
	}
}

func checkSuspect(t *testing.T, legs []impl.Leg, want int, isThere bool) {
	t.Helper()
	if leg, ok := impl.SuspectLeg(legs); ok != isThere || leg != want {
		t.Errorf("SuspectLeg(%v) = %d, %v, not %d, %v", legs, leg, ok, want, isThere)
	}
}

func checkFixed(t *testing.T, legs []impl.Leg, leg, fix int, want []impl.Leg) {
	t.Helper()
	if after, ok := impl.FixLeg(legs, leg, fix); !ok || !slices.Equal(after, want) {
		t.Errorf("FixLeg(%v, %d, %d) = %v, %v, not %v", legs, leg, fix, after, ok, want)
	}
}

func checkAfter(t *testing.T, legs []impl.Leg, leg, fix int, want *big.Rat) {
	t.Helper()
	num, den, ok := impl.StrainAfter(legs, leg, fix)
	checkFraction(t, "StrainAfter", legs, num, den, ok, want)
}

func checkNoFix(t *testing.T, legs []impl.Leg, leg, fix int) {
	t.Helper()
	after, one := impl.FixLeg(legs, leg, fix)
	num, den, two := impl.StrainAfter(legs, leg, fix)
	if one || two || len(after) != 0 || num != 0 || den != 0 {
		t.Errorf("%v, %d, %d: %v, %v; %d, %d, %v", legs, leg, fix, after, one, num, den, two)
	}
}

// checkBest has 0 and 0 for none.
func checkBest(t *testing.T, legs []impl.Leg, leg, fix int) {
	t.Helper()
	if a, b, ok := impl.BestFix(legs); ok != (fix != 0) || a != leg || b != fix {
		t.Errorf("BestFix(%v) = %d, %d, %v, not %d, %d", legs, a, b, ok, leg, fix)
	}
}

func checkOrder(t *testing.T, a, b []impl.Leg, want int) {
	t.Helper()
	forth, one := impl.CompareStrains(a, b)
	back, two := impl.CompareStrains(b, a)
	if !one || !two || forth != want || back != -want {
		t.Errorf("CompareStrains(%v, %v) = %d, %v, and back %d, %v, not %d", a, b, forth, one, back, two, want)
	}
}

func checkNoOrder(t *testing.T, a, b []impl.Leg) {
	t.Helper()
	if order, ok := impl.CompareStrains(a, b); ok || order != 0 {
		t.Errorf("CompareStrains(%v, %v) = %d, %v", a, b, order, ok)
	}
}

func checkClean(t *testing.T, legs, want []impl.Leg, count int) {
	t.Helper()
	if cleaned, n, ok := impl.CleanLegs(legs); !ok || n != count || !slices.Equal(cleaned, want) {
		t.Errorf("CleanLegs(%v) = %v, %d, %v, not %v, %d", legs, cleaned, n, ok, want, count)
	}
}

// checkLeavingOut checks the functions that leave out a Leg against the document's words.
func checkLeavingOut(t *testing.T, want ruledStrains) {
	t.Helper()
	checkStrain(t, want.legs, want.whole(want.legs))
	for leg := range want.legs {
		strain, ok := want.strain(want.legs, 1<<leg)
		if ok && slices.Contains(want.placed, leg) {
			checkWithout(t, want.legs, leg, strain)
		} else {
			checkNoWithout(t, want.legs, leg)
		}
	}
	suspects := want.suspects()
	checkSuspect(t, want.legs, append(suspects, 0)[0], len(suspects) > 0)
	for _, leg := range []int{-1, len(want.legs), len(want.legs) + 1} {
		checkNoWithout(t, want.legs, leg)
	}
}

// checkFixes does so for the functions that fix Legs.
func checkFixes(t *testing.T, want ruledStrains) {
	t.Helper()
	for leg := -1; leg <= len(want.legs)+1; leg++ {
		for fix := 0; fix <= 5; fix++ {
			if !slices.Contains(want.placed, leg) {
				checkNoFix(t, want.legs, leg, fix)
				continue
			}
			after, ok := fixedList(want.legs, leg, fix)
			if !ok {
				checkNoFix(t, want.legs, leg, fix)
				continue
			}
			checkFixed(t, want.legs, leg, fix, after)
			checkAfter(t, want.legs, leg, fix, want.whole(after))
		}
	}
	best := append(want.choices(want.legs), ruledChoice{})[0]
	checkBest(t, want.legs, best.leg, best.fix)
	cleaned, made := want.cleaned()
	checkClean(t, want.legs, cleaned, len(made))
	checkOrder(t, cleaned, want.legs, want.whole(cleaned).Cmp(want.whole(want.legs)))
}

// checkBlunders checks all functions at Legs against the document's words.
func checkBlunders(t *testing.T, legs []impl.Leg) ruledStrains {
	t.Helper()
	want := ruledStrainsOf(legs)
	checkLeavingOut(t, want)
	checkFixes(t, want)
	return want
}

// checkNoBlunders checks that no function takes the list, whatever else it is asked for.
func checkNoBlunders(t *testing.T, legs []impl.Leg) {
	t.Helper()
	num, den, one := impl.StrainOf(legs)
	cleaned, count, two := impl.CleanLegs(legs)
	if one || two || num != 0 || den != 0 || len(cleaned) != 0 || count != 0 {
		t.Errorf("%v: %d, %d, %v; %v, %d, %v", legs, num, den, one, cleaned, count, two)
	}
	checkSuspect(t, legs, 0, false)
	checkBest(t, legs, 0, 0)
	for leg := -1; leg <= len(legs); leg++ {
		checkNoWithout(t, legs, leg)
		for fix := 0; fix <= 5; fix++ {
			checkNoFix(t, legs, leg, fix)
		}
	}
	checkNoOrder(t, legs, legs)
	checkNoOrder(t, legs, nil)
	checkNoOrder(t, nil, legs)
}

// tangled have strains whose denominators are as great as the number of trees, which is 399 or 400.
func tangled(trees int) []impl.Leg {
	if trees == 399 {
		return joined([2]int{1, 5}, [2]int{2, 1}, [2]int{2, 4}, [2]int{2, 0}, [2]int{1, 3}, [2]int{6, 1}, [2]int{5, 4}, [2]int{4, 6}, [2]int{6, 0}, [2]int{5, 3}, [2]int{4, 0}, [2]int{0, 3})
	}
	return joined([2]int{2, 6}, [2]int{0, 2}, [2]int{3, 0}, [2]int{5, 1}, [2]int{2, 5}, [2]int{2, 4}, [2]int{1, 4}, [2]int{1, 6}, [2]int{4, 5}, [2]int{6, 3}, [2]int{0, 5}, [2]int{4, 3})
}

// ringOf has 6 to 8 Legs from the station 0 to itself with a misclosure of up to 20 along each
// axis.
func ringOf(count int, missed impl.Shift) []impl.Leg {
	legs := []impl.Leg{
		westward(0, 1, 50), southward(1, 2, 50), downward(2, 3, 50), eastward(3, 4, 50+missed.East),
		northward(4, 5, 50+missed.North), upward(5, 6, 50+missed.Up),
	}
	if count > 6 {
		legs[0].Tape = 27
		legs = append(legs, westward(6, 7, 23))
	}
	if count > 7 {
		legs[1].Tape = 19
		legs = append(legs, southward(7, 0, 31))
	}
	legs[count-1].To = 0
	return legs
}

var (
	// uprightTheta has three ways from the station 0 to the station 1.
	uprightTheta = []impl.Leg{upward(0, 1, 10), upward(1, 2, 20), downward(2, 0, 32), upward(0, 3, 16), downward(3, 1, 3)}
	// threeUpright are Legs between two stations, behind a bridge, beside a loop that hangs apart.
	threeUpright = []impl.Leg{upward(6, 7, 100), eastward(0, 5, 40), upward(5, 1, 100), upward(5, 1, 110), downward(7, 6, 300), upward(5, 1, 112)}
)

func TestFixConstants(t *testing.T) {
	if !slices.Equal(fixes, []int{1, 2, 3, 4}) {
		t.Error("fixes", fixes)
	}
}

func TestStrainOfAtKnownCaves(t *testing.T) {
	pairEast := []impl.Leg{eastward(0, 1, 10), eastward(0, 1, 11)}
	threeNorth := []impl.Leg{northward(0, 2, 10), northward(2, 3, 5), southward(3, 0, 14)}
	fiveUp := []impl.Leg{upward(0, 4, 9), upward(4, 5, 9), downward(5, 6, 7), downward(6, 7, 8), downward(7, 0, 4)}
	cases := []struct {
		legs     []impl.Leg
		num, den int
	}{
		// Without loops, and with loops only among the Legs whose ends are not placed.
		{nil, 0, 1}, {[]impl.Leg{}, 0, 1}, {joined([2]int{0, 1}), 0, 1}, {legsBetween(0, 1, 2, 3, 4, 5, 6, 7), 0, 1}, {legsBetween(3, 6, 0, 7, 2), 0, 1},
		{legsBetween(4, 5, 6, 4), 0, 1}, {[]impl.Leg{upward(4, 5, 10), upward(4, 5, 500), eastward(0, 1, 5)}, 0, 1},
		{append(legsBetween(0, 1, 2), slices.Repeat(joined([2]int{6, 7}, [2]int{7, 6}), 5)...), 0, 1},
		// Loops that close.
		{[]impl.Leg{eastward(0, 1, 30), northward(1, 2, 40), westward(2, 3, 30), southward(3, 0, 40)}, 0, 1},
		{slices.Repeat([]impl.Leg{{From: 0, To: 1, Tape: 300, Compass: 33, Slope: -12}}, impl.MaxLegs), 0, 1},
		// One loop: the squares of its misclosure by the number of its Legs, on one axis and on more.
		{[]impl.Leg{eastward(0, 1, 100), eastward(0, 1, 110)}, 50, 1}, {[]impl.Leg{northward(0, 1, 100), northward(0, 1, 110)}, 50, 1}, {[]impl.Leg{upward(0, 1, 100), upward(0, 1, 110)}, 50, 1},
		{[]impl.Leg{eastward(0, 1, 100), westward(1, 0, 111)}, 121, 2}, {[]impl.Leg{eastward(0, 1, 3), upward(0, 1, 4)}, 25, 2}, {[]impl.Leg{eastward(0, 1, 100), northward(0, 1, 100)}, 10000, 1},
		{[]impl.Leg{eastward(0, 1, 30), northward(1, 2, 40), westward(2, 3, 33), southward(3, 0, 41)}, 5, 2},
		{ringOf(6, impl.Shift{East: 1}), 1, 6}, {ringOf(6, impl.Shift{East: 1, North: 1}), 1, 3}, {ringOf(6, impl.Shift{East: 1, North: 1, Up: 1}), 1, 2},
		{ringOf(6, impl.Shift{East: 1, North: 1, Up: 2}), 1, 1}, {ringOf(6, impl.Shift{East: -1, North: 2, Up: -3}), 7, 3}, {ringOf(6, impl.Shift{North: -2}), 2, 3},
		{ringOf(7, impl.Shift{East: 1, North: 2, Up: 4}), 3, 1}, {ringOf(7, impl.Shift{East: -1, Up: 2}), 5, 7}, {ringOf(8, impl.Shift{North: 2, Up: -2}), 1, 1}, {ringOf(8, impl.Shift{East: 1, Up: 3}), 5, 4},
		// Loops that share a station, whose strains are 1/2 on one axis, 1/3 and 1/5 on the others.
		{pairEast, 1, 2}, {threeNorth, 1, 3}, {fiveUp, 1, 5}, {slices.Concat(pairEast, threeNorth), 5, 6}, {slices.Concat(pairEast, fiveUp), 7, 10},
		{slices.Concat(fiveUp, threeNorth), 8, 15}, {slices.Concat(fiveUp, pairEast, threeNorth), 31, 30}, {slices.Concat(threeNorth, []impl.Leg{upward(0, 4, 7), upward(0, 4, 8)}, pairEast), 4, 3},
		// Two and three Legs between two stations, and loops that share a Leg.
		{[]impl.Leg{upward(0, 1, 100), upward(0, 1, 110), upward(0, 1, 112)}, 248, 3}, {[]impl.Leg{upward(0, 1, 100), eastward(1, 0, 110), northward(0, 1, 112)}, 23096, 1}, {threeUpright, 248, 3},
		{[]impl.Leg{eastward(0, 1, 10), eastward(0, 1, 20), eastward(1, 2, 10), westward(2, 0, 39)}, 642, 5}, {uprightTheta, 27, 8}, {shaft, 2509, 3},
		{append([]impl.Leg{eastward(0, 1, 400), upward(4, 5, 500)}, append(legsBetween(5, 4, 6, 5), eastward(1, 2, 10), eastward(1, 2, 17))...), 49, 2},
	}
	for _, c := range cases {
		if want := fraction(c.num, c.den); want.Num().Int64() != int64(c.num) {
			t.Fatal("not in lowest terms", c.num, c.den)
		}
		checkStrain(t, c.legs, fraction(c.num, c.den))
		checkBlunders(t, c.legs)
	}
}

// TestStrainIsTheSumOfSquareSums adds the fractions of the three axes.
func TestStrainIsTheSumOfSquareSums(t *testing.T) {
	n := numbers{41}
	for range 500 {
		legs, sum := n.legsAmong(n.within(2, impl.MaxStations), n.within(1, impl.MaxLegs)), fraction(0, 1)
		for _, axis := range axes {
			num, den, _ := impl.SquareSum(legs, axis)
			sum.Add(sum, fraction(num, den))
		}
		checkStrain(t, legs, sum)
	}
}

// TestStrainsAtTheLimits has the longest Legs in loops with the most trees: in the direction with
// the longest Shift, along one axis, and in all directions.
func TestStrainsAtTheLimits(t *testing.T) {
	longest := impl.Leg{Tape: impl.MaxTape}
	for compass := range 360 {
		for slope := -90; slope <= 90; slope++ {
			x := impl.Leg{Tape: impl.MaxTape, Compass: compass, Slope: slope}
			if s, far := ruledShift(x), ruledShift(longest); s.East*s.East+s.North*s.North+s.Up*s.Up > far.East*far.East+far.North*far.North+far.Up*far.Up {
				longest = x
			}
		}
	}
	far := ruledShift(longest)
	square := far.East*far.East + far.North*far.North + far.Up*far.Up
	if square <= impl.MaxTape*impl.MaxTape {
		t.Error("no shift is longer than its tape", longest, far)
	}
	n, greatest := numbers{42}, 0
	for _, list := range [][]impl.Leg{thereAndBack(impl.MaxLegs), cube(), tangled(399), tangled(400), bipartite([]int{0, 1, 2}, []int{3, 4, 5, 6}), legsBetween(0, 1, 2, 3, 4, 5, 6, 7, 0)} {
		for turn := range 12 {
			legs := slices.Clone(list)
			for i, x := range list {
				legs[i] = longest
				if turn%3 == 1 {
					legs[i].Slope, legs[i].Compass = 0, 90+180*n.next(2)
				} else if turn%3 == 2 {
					legs[i].Slope, legs[i].Compass = n.within(-90, 90), n.next(360)
				}
				legs[i].From, legs[i].To = x.From, x.To
				if n.next(2) == 1 && turn > 2 {
					legs[i].From, legs[i].To = x.To, x.From
				}
			}
			checkBlunders(t, legs)
			num, _, _ := impl.StrainOf(legs)
			greatest = max(greatest, num)
		}
	}
	if greatest < 200000000 {
		t.Error("no strain has a greater num than", greatest)
	}
	// The same direction there and back: the strain is the sum of the squares of all Shifts.
	most := thereAndBack(impl.MaxLegs)
	for i, x := range most {
		most[i] = longest
		most[i].From, most[i].To = x.From, x.To
	}
	checkStrain(t, most, fraction(impl.MaxLegs*square, 1))
	checkWithout(t, most, 5, fraction(120*square, 11))
	less := slices.Clone(most)
	less[11].Tape--
	checkOrder(t, most, less, 1)
	checkOrder(t, most, slices.Clone(most), 0)
	checkOrder(t, most, nil, 1)
}

func TestStrainWithoutAtKnownCaves(t *testing.T) {
	type fractions [][2]int
	given := []impl.Leg{eastward(0, 1, 100), downward(1, 2, 100), eastward(3, 0, 50), {From: 2, To: 0, Tape: 145, Compass: 270, Slope: 45}, northward(5, 6, 10)}
	cases := []struct {
		legs    []impl.Leg
		without fractions // 0 and 0 for bridges and for Legs whose ends are not placed
		suspect int
	}{
		{given, fractions{{0, 1}, {0, 1}, {}, {0, 1}, {}}, 0},
		// One loop: no strain is left, and its first Leg is suspected.
		{[]impl.Leg{eastward(0, 1, 30), northward(1, 2, 40), westward(2, 3, 33), southward(3, 0, 41)}, fractions{{0, 1}, {0, 1}, {0, 1}, {0, 1}}, 0},
		{shaft, fractions{{}, {}, {}, {0, 1}, {}, {0, 1}, {0, 1}, {}}, 3},
		{[]impl.Leg{eastward(0, 3, 9), eastward(3, 1, 30), upward(1, 7, 50), westward(1, 3, 33)}, fractions{{}, {0, 1}, {}, {0, 1}}, 1},
		// A loop that closes: nothing is less than 0.
		{[]impl.Leg{upward(0, 2, 5), eastward(0, 1, 30), westward(1, 0, 30)}, fractions{{}, {0, 1}, {0, 1}}, 1},
		// Loops that share a Leg: what is left is the outer loop, or one of the inner ones.
		{uprightTheta, fractions{{1, 4}, {3, 1}, {3, 1}, {4, 3}, {4, 3}}, 0},
		{[]impl.Leg{uprightTheta[3], uprightTheta[1], uprightTheta[4], uprightTheta[2], uprightTheta[0]}, fractions{{4, 3}, {3, 1}, {4, 3}, {3, 1}, {1, 4}}, 4},
		{[]impl.Leg{eastward(0, 1, 10), eastward(0, 1, 20), eastward(1, 2, 10), westward(2, 0, 39)}, fractions{{27, 1}, {361, 3}, {50, 1}, {50, 1}}, 0},
		// Loops that share a station: the strain of the other one is left.
		{[]impl.Leg{eastward(0, 1, 100), eastward(0, 1, 110), northward(0, 2, 10), northward(0, 2, 16)}, fractions{{18, 1}, {18, 1}, {50, 1}, {50, 1}}, 0},
		{[]impl.Leg{northward(0, 2, 10), northward(0, 2, 16), eastward(0, 1, 100), eastward(0, 1, 110)}, fractions{{50, 1}, {50, 1}, {18, 1}, {18, 1}}, 2},
		{[]impl.Leg{northward(0, 2, 10), upward(2, 3, 7), northward(0, 2, 20), eastward(2, 1, 100), eastward(2, 1, 110)}, fractions{{50, 1}, {}, {50, 1}, {50, 1}, {50, 1}}, 0},
		// Two and three Legs between two stations. That without which the strain stays is exact.
		{[]impl.Leg{eastward(0, 1, 100), westward(1, 0, 111)}, fractions{{0, 1}, {0, 1}}, 0}, {threeUpright, fractions{{}, {}, {2, 1}, {72, 1}, {}, {50, 1}}, 2},
		{[]impl.Leg{upward(0, 1, 10), upward(0, 1, 12), upward(0, 1, 11)}, fractions{{1, 2}, {1, 2}, {2, 1}}, 0}, {[]impl.Leg{upward(0, 1, 11), upward(0, 1, 10), downward(1, 0, 12)}, fractions{{2, 1}, {1, 2}, {1, 2}}, 1},
		{[]impl.Leg{upward(1, 0, 10), upward(1, 0, 10), upward(1, 0, 16), upward(1, 0, 10)}, fractions{{24, 1}, {24, 1}, {0, 1}, {24, 1}}, 2},
		// On three axes, and with fractions that differ by less than 1.
		{[]impl.Leg{eastward(0, 1, 10), upward(0, 1, 3), northward(0, 1, 3)}, fractions{{9, 1}, {109, 2}, {109, 2}}, 0},
		{[]impl.Leg{upward(0, 2, 36), upward(2, 3, 36), upward(3, 1, 36), upward(0, 1, 100), upward(0, 4, 50), upward(4, 1, 43)}, fractions{{49, 3}, {49, 3}, {49, 3}, {45, 1}, {16, 1}, {16, 1}}, 4},
	}
	for _, c := range cases {
		for leg, want := range c.without {
			if want[1] == 0 {
				checkNoWithout(t, c.legs, leg)
				continue
			}
			checkWithout(t, c.legs, leg, fraction(want[0], want[1]))
		}
		checkSuspect(t, c.legs, c.suspect, true)
		checkBlunders(t, c.legs)
	}
}

// TestNobodyIsSuspected: there are no Legs, or all placed ones are bridges, after which others
// lose their places.
func TestNobodyIsSuspected(t *testing.T) {
	lists := [][]impl.Leg{
		nil, {}, joined([2]int{0, 1}), joined([2]int{7, 0}), legsBetween(0, 1, 2, 3, 4, 5, 6, 7), legsBetween(7, 6, 5, 4, 3, 2, 1, 0), legsBetween(3, 6, 0, 7, 2),
		joined([2]int{1, 0}, [2]int{0, 2}, [2]int{3, 0}, [2]int{0, 4}), legsBetween(4, 5, 6, 4), joined([2]int{5, 6}, [2]int{0, 2}, [2]int{6, 5}), completeAmong(1, 2, 3, 4),
		slices.Concat(completeAmong(4, 5, 6, 7), legsBetween(2, 0, 1, 3)), bipartite([]int{1, 2, 3}, []int{4, 5, 6, 7}),
	}
	for _, legs := range lists {
		checkSuspect(t, legs, 0, false)
		checkStrain(t, legs, fraction(0, 1))
		for leg := range legs {
			checkNoWithout(t, legs, leg)
		}
		checkBest(t, legs, 0, 0)
		checkClean(t, legs, legs, 0)
		checkBlunders(t, legs)
	}
}

func TestLeavingOutNeverMakesTheStrainGreater(t *testing.T) {
	lists := [][]impl.Leg{
		legsBetween(0, 1, 2, 0), legsBetween(0, 3, 4, 5, 6, 4), legsBetween(0, 1, 2, 3, 4, 5, 6, 7, 0), legsBetween(0, 1, 2, 0, 3, 1), legsBetween(0, 1, 2, 3, 0, 2), sharedRings, uprightTheta,
		legsBetween(0, 1, 2, 0, 3, 4, 0), legsBetween(0, 1, 2, 0, 3, 4, 5, 6, 3), legsBetween(0, 1, 2, 3, 1, 4, 5, 1, 4), shaft, threeUpright, thereAndBack(2), thereAndBack(3),
		repeatedLegs(2, 4), repeatedLegs(3, 4), completeAmong(0, 2, 4, 6), completeAmong(0, 1, 2, 3, 4), slices.Concat(completeAmong(4, 5, 6, 7), legsBetween(0, 1, 2, 0)),
		cube(), moebius(), bipartite([]int{0, 1, 2}, []int{3, 4, 5, 6}), tangled(399), tangled(400), thereAndBack(impl.MaxLegs), repeatedLegs(2, 7), repeatedLegs(6, 3), append(completeAmong(0, 3, 5, 7), completeAmong(0, 3, 5, 7)...),
	}
	n := numbers{43}
	for _, list := range lists {
		checkLeavingOut(t, ruledStrainsOf(list))
		for range 12 {
			legs := slices.Clone(list)
			for i, x := range list {
				legs[i] = n.leg()
				legs[i].From, legs[i].To = x.From, x.To
			}
			checkLeavingOut(t, ruledStrainsOf(legs))
		}
	}
}

func TestFixLegAtKnownLegs(t *testing.T) {
	leg := func(tape, compass, slope int) impl.Leg {
		return impl.Leg{From: 4, To: 0, Tape: tape, Compass: compass, Slope: slope}
	}
	cases := []struct {
		x    impl.Leg
		fix  int
		want impl.Leg // the zero Leg if the fix is not possible
	}{
		// Around north and south.
		{leg(70, 0, 5), impl.FixBack, leg(70, 180, 5)}, {leg(70, 180, 5), impl.FixBack, leg(70, 0, 5)}, {leg(70, 179, -5), impl.FixBack, leg(70, 359, -5)}, {leg(70, 359, -5), impl.FixBack, leg(70, 179, -5)},
		{leg(70, 1, 0), impl.FixBack, leg(70, 181, 0)}, {leg(70, 181, 0), impl.FixBack, leg(70, 1, 0)}, {leg(1, 90, 90), impl.FixBack, leg(1, 270, 90)}, {leg(500, 270, -90), impl.FixBack, leg(500, 90, -90)},
		// Level, and straight up and down.
		{leg(70, 20, 0), impl.FixSlope, leg(70, 20, 0)}, {leg(70, 0, 1), impl.FixSlope, leg(70, 0, -1)}, {leg(70, 359, -1), impl.FixSlope, leg(70, 359, 1)},
		{leg(1, 20, 90), impl.FixSlope, leg(1, 20, -90)}, {leg(500, 20, -90), impl.FixSlope, leg(500, 20, 90)}, {leg(70, 20, 89), impl.FixSlope, leg(70, 20, -89)},
		{leg(1, 20, 5), impl.FixLonger, leg(101, 20, 5)}, {leg(100, 20, 5), impl.FixLonger, leg(200, 20, 5)}, {leg(399, 20, 5), impl.FixLonger, leg(499, 20, 5)}, {leg(400, 0, -90), impl.FixLonger, leg(500, 0, -90)},
		{leg(401, 20, 5), impl.FixLonger, impl.Leg{}}, {leg(402, 20, 5), impl.FixLonger, impl.Leg{}}, {leg(499, 20, 5), impl.FixLonger, impl.Leg{}}, {leg(500, 20, 5), impl.FixLonger, impl.Leg{}},
		{leg(500, 20, 5), impl.FixShorter, leg(400, 20, 5)}, {leg(201, 20, 5), impl.FixShorter, leg(101, 20, 5)}, {leg(102, 20, 5), impl.FixShorter, leg(2, 20, 5)}, {leg(101, 359, 90), impl.FixShorter, leg(1, 359, 90)},
		{leg(100, 20, 5), impl.FixShorter, impl.Leg{}}, {leg(99, 20, 5), impl.FixShorter, impl.Leg{}}, {leg(50, 20, 5), impl.FixShorter, impl.Leg{}}, {leg(1, 20, 5), impl.FixShorter, impl.Leg{}},
	}
	for _, c := range cases {
		// Alone, as the first, second and last one of a loop, and between Legs that hang apart.
		for _, legs := range [][]impl.Leg{{{}}, {{}, eastward(0, 1, 70), upward(1, 4, 30)}, {upward(1, 4, 30), {}, eastward(0, 1, 70)}, {upward(4, 7, 30), {}, eastward(0, 1, 70), upward(4, 0, 30)},
			{eastward(0, 4, 70), northward(4, 0, 30), {}}, {eastward(5, 6, 70), {}, westward(6, 5, 30)}} {
			at, after := slices.Index(legs, impl.Leg{}), slices.Clone(legs)
			legs[at], after[at] = c.x, c.want
			if c.want == (impl.Leg{}) {
				checkNoFix(t, legs, at, c.fix)
			} else {
				checkFixed(t, legs, at, c.fix, after)
				checkAfter(t, legs, at, c.fix, ruledStrainsOf(after).whole(after))
			}
			checkBlunders(t, legs)
		}
	}
}

// TestFixLegOfAllBearingsSlopesAndTapes also makes the opposite fix, which leads back to the Legs
// as they were.
func TestFixLegOfAllBearingsSlopesAndTapes(t *testing.T) {
	check := func(x impl.Leg) {
		for i, fix := range fixes {
			legs := []impl.Leg{eastward(0, 1, 20), x, westward(1, 0, 30)}
			y, ok := ruledFix(x, fix)
			if !ok {
				checkNoFix(t, legs, 1, fix)
				continue
			}
			after := []impl.Leg{legs[0], y, legs[2]}
			checkFixed(t, legs, 1, fix, after)
			checkFixed(t, after, 1, []int{impl.FixBack, impl.FixSlope, impl.FixShorter, impl.FixLonger}[i], legs)
			num, den, ok := impl.StrainOf(after)
			checkAfter(t, legs, 1, fix, fraction(num, max(den, 1)))
		}
	}
	for compass := range 360 {
		check(impl.Leg{From: 1, To: 0, Tape: 80, Compass: compass, Slope: compass%181 - 90})
	}
	for slope := -90; slope <= 90; slope++ {
		check(impl.Leg{From: 0, To: 1, Tape: 80, Compass: 33, Slope: slope})
	}
	for tape := 1; tape <= impl.MaxTape; tape++ {
		check(impl.Leg{From: 0, To: 7, Tape: tape, Compass: 140, Slope: -9})
	}
}

func TestStrainAfterAtKnownCaves(t *testing.T) {
	square := []impl.Leg{eastward(0, 1, 200), northward(1, 2, 150), westward(2, 3, 200), southward(3, 0, 150)}
	slope := []impl.Leg{{From: 0, To: 1, Tape: 100, Slope: 30}, northward(1, 2, 13), {From: 2, To: 0, Tape: 100, Compass: 180, Slope: 30}}
	given := []impl.Leg{eastward(0, 1, 100), downward(1, 2, 100), eastward(3, 0, 50), {From: 2, To: 0, Tape: 145, Compass: 270, Slope: 45}, northward(5, 6, 10)}
	cases := []struct {
		legs          []impl.Leg
		leg, fix      int
		num, den      int
		before, beden int
	}{
		{given, 0, impl.FixBack, 41218, 3, 6, 1},
		{square, 0, impl.FixBack, 40000, 1, 0, 1}, {square, 1, impl.FixBack, 22500, 1, 0, 1}, {square, 2, impl.FixSlope, 0, 1, 0, 1},
		{square, 2, impl.FixLonger, 2500, 1, 0, 1}, {square, 3, impl.FixShorter, 2500, 1, 0, 1},
		// A slope of the wrong sign; the wrong one of the two is made right.
		{slope, 0, impl.FixSlope, 169, 3, 10169, 3}, {slope, 2, impl.FixSlope, 169, 3, 10169, 3}, {slope, 1, impl.FixSlope, 10169, 3, 10169, 3},
		{slope, 1, impl.FixBack, 10169, 3, 10169, 3}, {slope, 1, impl.FixLonger, 22769, 3, 10169, 3}, {slope, 2, impl.FixBack, 44969, 3, 10169, 3},
		// Bridges have no part in the strain, and upright Legs no bearing.
		{given, 2, impl.FixBack, 6, 1, 6, 1}, {given, 2, impl.FixLonger, 6, 1, 6, 1}, {given, 1, impl.FixBack, 6, 1, 6, 1}, {given, 0, impl.FixSlope, 6, 1, 6, 1},
		{threeUpright, 1, impl.FixBack, 248, 3, 248, 3}, {threeUpright, 3, impl.FixBack, 248, 3, 248, 3}, {threeUpright, 3, impl.FixShorter, 6216, 1, 248, 3},
	}
	for _, c := range cases {
		checkStrain(t, c.legs, fraction(c.before, c.beden))
		checkAfter(t, c.legs, c.leg, c.fix, fraction(c.num, c.den))
		checkBlunders(t, c.legs)
	}
}

func TestOtherFixesAreNotPossible(t *testing.T) {
	for _, legs := range [][]impl.Leg{nil, {}, legsBetween(0, 1, 2, 3), legsBetween(4, 5, 6, 4), shaft, sharedRings, cube()} {
		for leg := -1; leg <= len(legs); leg++ {
			for _, fix := range badFixes {
				checkNoFix(t, legs, leg, fix)
			}
		}
	}
}

func TestOtherLegsAreNeitherLeftOutNorFixed(t *testing.T) {
	for _, legs := range [][]impl.Leg{nil, {}, legsBetween(0, 1, 2, 3), legsBetween(4, 5, 6, 4), shaft, sharedRings, cube(), thereAndBack(impl.MaxLegs)} {
		for _, leg := range []int{-1, -2, -len(legs) - 1, len(legs), len(legs) + 1, impl.MaxLegs, impl.MaxLegs + 1, 64, math.MaxInt, math.MinInt} {
			checkNoWithout(t, legs, leg)
			for _, fix := range fixes {
				checkNoFix(t, legs, leg, fix)
			}
		}
	}
	// Legs whose ends are not placed, and bridges, which may be fixed.
	for _, fix := range []int{impl.FixBack, impl.FixSlope} {
		checkNoFix(t, shaft, 4, fix)
		checkNoFix(t, shaft, 7, fix)
		for leg := range 3 {
			checkNoFix(t, legsBetween(4, 5, 6, 4), leg, fix)
			after, _ := fixedList(shaft, leg, fix)
			checkFixed(t, shaft, leg, fix, after)
		}
	}
	for leg := range 3 {
		checkNoWithout(t, shaft, leg)
		checkNoWithout(t, legsBetween(4, 5, 6, 4), leg)
	}
	checkNoWithout(t, shaft, 4)
	checkNoWithout(t, shaft, 7)
}

func TestBestFixAtKnownCaves(t *testing.T) {
	steep := impl.Leg{From: 0, To: 1, Tape: 100, Compass: 90, Slope: 45}
	opposed := impl.Leg{From: 0, To: 1, Tape: 100, Compass: 270, Slope: -45}
	cases := []struct {
		legs     []impl.Leg
		leg, fix int
	}{
		// Each fix, where it alone is the best one.
		{[]impl.Leg{eastward(0, 1, 80), eastward(0, 1, 80), westward(0, 1, 80)}, 2, impl.FixBack}, {[]impl.Leg{upward(0, 1, 80), upward(1, 0, 80), downward(1, 0, 80)}, 1, impl.FixSlope},
		{[]impl.Leg{eastward(0, 1, 100), eastward(0, 1, 200), westward(1, 0, 200)}, 0, impl.FixLonger}, {[]impl.Leg{eastward(0, 1, 200), eastward(0, 1, 200), westward(1, 0, 100)}, 2, impl.FixLonger},
		{[]impl.Leg{eastward(0, 1, 300), eastward(0, 1, 200), westward(1, 0, 200)}, 0, impl.FixShorter}, {[]impl.Leg{eastward(0, 1, 200), westward(1, 0, 300), eastward(0, 1, 200)}, 1, impl.FixShorter},
		// Two fixes of different Legs that fit equally: the smaller index is told.
		{[]impl.Leg{eastward(0, 1, 100), eastward(0, 1, 200)}, 0, impl.FixLonger}, {[]impl.Leg{eastward(0, 1, 200), eastward(0, 1, 100)}, 0, impl.FixShorter},
		{[]impl.Leg{eastward(0, 1, 100), downward(1, 2, 100), {From: 2, To: 0, Tape: 141, Compass: 90, Slope: 45}}, 0, impl.FixBack},
		{[]impl.Leg{eastward(0, 1, 100), downward(1, 2, 100), {From: 2, To: 0, Tape: 141, Compass: 270, Slope: -45}}, 1, impl.FixSlope},
		{[]impl.Leg{eastward(0, 1, 80), westward(0, 1, 80)}, 0, impl.FixBack}, {[]impl.Leg{upward(0, 1, 80), downward(0, 1, 80)}, 0, impl.FixSlope},
		{[]impl.Leg{northward(6, 7, 9), eastward(0, 2, 30), eastward(2, 1, 80), westward(2, 1, 80)}, 2, impl.FixBack},
		{[]impl.Leg{eastward(0, 1, 200), northward(1, 2, 250), westward(2, 3, 200), southward(3, 0, 150)}, 1, impl.FixShorter},
		{[]impl.Leg{eastward(0, 1, 200), northward(1, 2, 150), westward(2, 3, 200), southward(3, 0, 250)}, 1, impl.FixLonger},
		// The index decides before the fix does: a smaller fix of a Leg behind fits as well.
		{[]impl.Leg{eastward(0, 1, 200), westward(1, 2, 50), eastward(0, 2, 250)}, 0, impl.FixLonger}, {[]impl.Leg{westward(1, 2, 50), eastward(0, 1, 200), eastward(0, 2, 250)}, 0, impl.FixBack},
		{[]impl.Leg{eastward(0, 2, 250), westward(1, 2, 50), eastward(0, 1, 200)}, 0, impl.FixShorter}, {[]impl.Leg{upward(0, 2, 250), downward(1, 2, 50), upward(0, 1, 200)}, 0, impl.FixShorter},
		{[]impl.Leg{upward(0, 1, 200), downward(1, 2, 50), upward(0, 2, 250)}, 0, impl.FixLonger}, {[]impl.Leg{downward(1, 2, 50), upward(0, 1, 200), upward(0, 2, 250)}, 0, impl.FixSlope},
		// Two fixes of the same Leg that fit equally: the smaller fix is told.
		{[]impl.Leg{steep, opposed}, 0, impl.FixBack}, {[]impl.Leg{eastward(0, 7, 5), opposed, steep}, 1, impl.FixBack}, {[]impl.Leg{eastward(0, 1, 150), westward(0, 1, 50)}, 0, impl.FixBack},
		{[]impl.Leg{upward(0, 1, 150), downward(0, 1, 50)}, 0, impl.FixSlope}, {[]impl.Leg{eastward(0, 1, 150), westward(0, 1, 50), westward(0, 1, 50)}, 0, impl.FixBack},
		{[]impl.Leg{westward(0, 1, 50), upward(0, 2, 9), eastward(0, 1, 150), westward(0, 1, 50)}, 2, impl.FixBack}, {[]impl.Leg{downward(0, 1, 50), downward(0, 1, 50), upward(0, 1, 150)}, 2, impl.FixSlope},
		// By how little the strain becomes smaller makes no difference, but it must.
		{[]impl.Leg{eastward(0, 1, 100), eastward(0, 1, 110)}, 0, 0}, {[]impl.Leg{eastward(0, 1, 110), eastward(0, 1, 149)}, 0, 0}, {[]impl.Leg{eastward(0, 1, 110), eastward(0, 1, 160)}, 0, 0},
		{[]impl.Leg{eastward(0, 1, 110), eastward(0, 1, 161)}, 0, impl.FixLonger}, {[]impl.Leg{eastward(0, 1, 161), eastward(0, 1, 110)}, 0, impl.FixShorter}, {[]impl.Leg{eastward(0, 1, 160), eastward(0, 1, 110)}, 0, 0},
		{[]impl.Leg{eastward(0, 1, 50), northward(0, 1, 50)}, 0, 0}, {[]impl.Leg{eastward(0, 1, 1), westward(0, 1, 1)}, 0, impl.FixBack}, {[]impl.Leg{upward(0, 1, 1), upward(1, 0, 1)}, 0, impl.FixSlope},
		// Fixes that are not possible, and those that just are.
		{[]impl.Leg{eastward(0, 1, 400), eastward(0, 1, 500)}, 0, impl.FixLonger}, {[]impl.Leg{eastward(0, 1, 401), eastward(0, 1, 500)}, 1, impl.FixShorter}, {[]impl.Leg{eastward(0, 1, 500), eastward(0, 1, 401)}, 0, impl.FixShorter},
		{[]impl.Leg{eastward(0, 1, 101), eastward(0, 1, 10)}, 0, impl.FixShorter}, {[]impl.Leg{eastward(0, 1, 100), eastward(0, 1, 10)}, 1, impl.FixLonger}, {[]impl.Leg{eastward(0, 1, 1), eastward(0, 1, 100)}, 0, impl.FixLonger},
		{[]impl.Leg{eastward(0, 1, 100), northward(1, 2, 499), southward(2, 0, 499)}, 0, 0}, {[]impl.Leg{eastward(0, 1, 101), northward(1, 2, 499), southward(2, 0, 499)}, 0, impl.FixShorter},
		// A strain of 0, with loops and without, and one only of Legs whose ends are not placed.
		{nil, 0, 0}, {[]impl.Leg{eastward(0, 1, 200)}, 0, 0}, {[]impl.Leg{eastward(0, 1, 200), westward(1, 0, 200)}, 0, 0}, {[]impl.Leg{eastward(4, 5, 100), eastward(4, 5, 200), northward(0, 1, 300)}, 0, 0},
		{[]impl.Leg{eastward(0, 1, 300), northward(1, 2, 200), westward(2, 3, 300), southward(3, 0, 200)}, 0, 0},
	}
	for _, c := range cases {
		checkBest(t, c.legs, c.leg, c.fix)
		checkBlunders(t, c.legs)
	}
}

func TestCompareStrainsAtKnownCaves(t *testing.T) {
	// The strains are 8/7 and 9/8, 22/7 and 25/8, 8/7 and 7/6, 1/6 and 1/7.
	checkOrder(t, ringOf(7, impl.Shift{East: 2, Up: 2}), ringOf(8, impl.Shift{North: 3}), 1)
	checkOrder(t, ringOf(7, impl.Shift{East: 3, North: -3, Up: 2}), ringOf(8, impl.Shift{Up: 5}), 1)
	checkOrder(t, ringOf(7, impl.Shift{East: 2, Up: 2}), ringOf(6, impl.Shift{East: 1, North: 1, Up: 2}), 1)
	checkOrder(t, ringOf(7, impl.Shift{East: 1}), ringOf(6, impl.Shift{East: 1}), -1)
	// Equal ones out of different Legs: 1 of 6, 8 and 2 Legs, 1/2, 50, and 0.
	ones := [][]impl.Leg{
		ringOf(6, impl.Shift{East: 1, North: 1, Up: 2}), ringOf(6, impl.Shift{East: -2, North: 1, Up: -1}), ringOf(8, impl.Shift{North: 2, Up: -2}),
		{upward(3, 0, 5), upward(5, 6, 9), eastward(0, 1, 7), {From: 0, To: 1, Tape: 8, Compass: 83}},
	}
	for i, one := range ones {
		for _, other := range ones[i:] {
			checkOrder(t, one, other, 0)
		}
		checkOrder(t, one, nil, 1)
	}
	checkOrder(t, ringOf(6, impl.Shift{East: 1, North: 1, Up: 1}), []impl.Leg{upward(0, 1, 40), upward(0, 1, 41)}, 0)
	checkOrder(t, []impl.Leg{upward(0, 1, 100), upward(0, 1, 110)}, []impl.Leg{westward(0, 7, 200), eastward(7, 0, 190), northward(7, 6, 77)}, 0)
	for _, legs := range [][]impl.Leg{nil, {}, legsBetween(0, 1, 2, 3), legsBetween(4, 5, 6, 4), {eastward(0, 1, 9), westward(1, 0, 9)}} {
		checkOrder(t, legs, nil, 0)
		checkOrder(t, legs, []impl.Leg{}, 0)
		checkOrder(t, legs, shaft, -1)
	}
	checkOrder(t, shaft, shaft, 0)
	checkOrder(t, shaft, uprightTheta, 1)
}

// TestCompareStrainsOfNeighbours sorts many Legs by their strains, which are small ones with all
// denominators, and compares each with those behind it.
func TestCompareStrainsOfNeighbours(t *testing.T) {
	type strained struct {
		legs   []impl.Leg
		strain *big.Rat
	}
	n, list := numbers{44}, []strained{}
	for i := range 3000 {
		legs := slices.Clone([][]impl.Leg{tangled(399), tangled(400), moebius(), bipartite([]int{0, 1, 2}, []int{3, 4, 5, 6}), uprightTheta}[i%5])
		for k := range legs {
			legs[k].Tape, legs[k].Compass, legs[k].Slope = n.within(1, 3), n.next(360), n.within(-90, 90)
		}
		num, den, _ := impl.StrainOf(legs)
		list = append(list, strained{legs, fraction(num, den)})
	}
	slices.SortFunc(list, func(a, b strained) int { return a.strain.Cmp(b.strain) })
	near, equal := 0, 0
	for i, one := range list {
		for _, other := range list[i:min(i+4, len(list))] {
			order := one.strain.Cmp(other.strain)
			checkOrder(t, one.legs, other.legs, order)
			gap := fraction(0, 1).Sub(other.strain, one.strain)
			if order != 0 && gap.Cmp(fraction(1, 1000)) < 0 && one.strain.Denom().Cmp(other.strain.Denom()) != 0 {
				near++
			}
			if order == 0 && !slices.Equal(one.legs, other.legs) {
				equal++
			}
		}
	}
	if near < 30 || equal < 30 {
		t.Error("only", near, "near and", equal, "equal ones")
	}
}

func TestCompareStrainsRefuses(t *testing.T) {
	valid := [][]impl.Leg{nil, {}, legsBetween(0, 1, 2, 0), shaft, thereAndBack(impl.MaxLegs)}
	invalid := [][]impl.Leg{{{}}, thereAndBack(impl.MaxLegs + 1), append(slices.Clone(shaft), impl.Leg{From: 5, To: 6, Tape: 501}), {eastward(0, 1, 5), eastward(2, 2, 5)}}
	for _, a := range invalid {
		for _, b := range valid {
			checkNoOrder(t, a, b)
			checkNoOrder(t, b, a)
		}
		for _, b := range invalid {
			checkNoOrder(t, a, b)
		}
	}
}

func TestCleanLegsAtKnownCaves(t *testing.T) {
	four := slices.Concat(
		[]impl.Leg{eastward(0, 1, 70), westward(0, 1, 70)}, []impl.Leg{northward(0, 2, 100), southward(0, 2, 100)},
		[]impl.Leg{upward(0, 3, 80), downward(0, 3, 80)}, []impl.Leg{westward(0, 4, 90), eastward(0, 4, 90)}, []impl.Leg{eastward(6, 5, 100), westward(6, 5, 100)},
	)
	fixed := func(legs []impl.Leg, made ...[2]int) []impl.Leg {
		for _, fix := range made {
			legs, _ = fixedList(legs, fix[0], fix[1])
		}
		return legs
	}
	cases := []struct {
		legs []impl.Leg
		made [][2]int
	}{
		// None: no strain, and none that a fix makes smaller.
		{nil, nil}, {[]impl.Leg{}, nil}, {legsBetween(0, 1, 2, 3), nil}, {legsBetween(4, 5, 6, 4), nil}, {[]impl.Leg{eastward(0, 1, 100), eastward(0, 1, 110)}, nil}, {four[8:], nil},
		// One, after which a small strain may be left.
		{[]impl.Leg{eastward(0, 1, 80), eastward(0, 1, 83), westward(0, 1, 80)}, [][2]int{{2, impl.FixBack}}}, {[]impl.Leg{upward(0, 1, 80), upward(1, 0, 80), downward(1, 0, 80)}, [][2]int{{1, impl.FixSlope}}},
		{[]impl.Leg{eastward(0, 1, 100), eastward(0, 1, 203), westward(1, 0, 201)}, [][2]int{{0, impl.FixLonger}}}, {four[:2], [][2]int{{0, impl.FixBack}}}, {four[4:6], [][2]int{{0, impl.FixSlope}}},
		// Two and three, those that leave the least strain first, of the same Leg and of others.
		{[]impl.Leg{{From: 0, To: 1, Tape: 100, Compass: 90, Slope: 45}, {From: 0, To: 1, Tape: 100, Compass: 270, Slope: -45}}, [][2]int{{0, impl.FixBack}, {0, impl.FixSlope}}},
		{[]impl.Leg{eastward(0, 1, 150), westward(0, 1, 50)}, [][2]int{{0, impl.FixBack}, {0, impl.FixShorter}}}, {[]impl.Leg{eastward(0, 1, 100), eastward(0, 1, 300)}, [][2]int{{0, impl.FixLonger}, {0, impl.FixLonger}}},
		{four[:4], [][2]int{{2, impl.FixBack}, {0, impl.FixBack}}}, {four[:6], [][2]int{{2, impl.FixBack}, {4, impl.FixSlope}, {0, impl.FixBack}}},
		{[]impl.Leg{eastward(0, 1, 101), eastward(0, 1, 401)}, [][2]int{{0, impl.FixLonger}, {0, impl.FixLonger}, {0, impl.FixLonger}}},
		{[]impl.Leg{eastward(0, 1, 250), eastward(0, 1, 490)}, [][2]int{{0, impl.FixLonger}, {0, impl.FixLonger}}}, {[]impl.Leg{eastward(0, 1, 350), eastward(0, 1, 70)}, [][2]int{{0, impl.FixShorter}, {0, impl.FixShorter}, {0, impl.FixShorter}}},
		// Three, and a fourth one would be possible.
		{four, [][2]int{{2, impl.FixBack}, {6, impl.FixBack}, {4, impl.FixSlope}}}, {four[:8], [][2]int{{2, impl.FixBack}, {6, impl.FixBack}, {4, impl.FixSlope}}},
		{[]impl.Leg{eastward(0, 1, 99), eastward(0, 1, 499)}, [][2]int{{0, impl.FixLonger}, {0, impl.FixLonger}, {0, impl.FixLonger}}},
	}
	for _, c := range cases {
		after := fixed(c.legs, c.made...)
		checkClean(t, c.legs, after, len(c.made))
		checkBlunders(t, c.legs)
	}
	// The fourth fix is made when the Legs are cleaned again.
	after := fixed(four, cases[len(cases)-2].made...)
	checkBest(t, after, 0, impl.FixBack)
	checkClean(t, after, fixed(after, [2]int{0, impl.FixBack}), 1)
	checkClean(t, fixed(after, [2]int{0, impl.FixBack}), fixed(after, [2]int{0, impl.FixBack}), 0)
	checkBest(t, []impl.Leg{eastward(0, 1, 399), eastward(0, 1, 499)}, 0, impl.FixLonger)
	checkBest(t, []impl.Leg{eastward(0, 1, 401), eastward(0, 1, 401)}, 0, 0)
}

// blundered measures the Legs anew, between places of the stations that are known, and then makes
// some wrong.
func (n *numbers) blundered(legs []impl.Leg, blunders int) []impl.Leg {
	places, list := [impl.MaxStations]impl.Shift{}, slices.Clone(legs)
	for station := range places {
		places[station] = impl.Shift{East: n.within(-120, 120), North: n.within(-120, 120), Up: n.within(-80, 80)}
	}
	for i, x := range list {
		way := plus(places[x.To], opposite(places[x.From]))
		level, _ := impl.LengthOf(way.East, way.North, 0)
		list[i].Compass, _ = impl.BearingTo(way.East, way.North)
		list[i].Slope, _ = impl.SlopeTo(level, way.Up)
		list[i].Tape, _ = impl.LengthOf(way.East, way.North, way.Up)
		list[i].Tape = max(1, min(impl.MaxTape, list[i].Tape))
	}
	for range min(blunders, len(list)) {
		if worse, ok := fixedList(list, n.next(len(list)), n.within(1, 4)); ok {
			list = worse
		}
	}
	return list
}

func TestBlundersOfManyCaves(t *testing.T) {
	n := numbers{46}
	check := func(legs []impl.Leg) map[string]bool {
		return kindsOfBlunders(checkBlunders(t, n.blundered(legs, n.next(5))))
	}
	checkSample(t, 45, 1300, check, "strain", "no strain", "bridge and loop", "apart", "nobody", "several suspects", "later suspect", "not left", "smaller",
		"no fix", "one fix", "two fixes", "three fixes", "FixBack", "FixSlope", "FixLonger", "FixShorter")
}

// straightLists yields all lists of three Legs between two stations, and around three of them,
// along an axis or steeply, so that leaving out and fixing different ones is often equally good.
func straightLists(yield func([]impl.Leg) bool) {
	some := []impl.Leg{}
	for _, tape := range []int{50, 150} {
		some = append(some, eastward(0, 0, tape), westward(0, 0, tape), upward(0, 0, tape), downward(0, 0, tape),
			impl.Leg{Tape: tape, Compass: 90, Slope: 45}, impl.Leg{Tape: tape, Compass: 270, Slope: -45})
	}
	for _, ends := range [][][2]int{{{0, 1}, {0, 1}, {0, 1}}, {{0, 1}, {1, 2}, {0, 2}}} {
		for number := range len(some) * len(some) * len(some) {
			legs := []impl.Leg{some[number%len(some)], some[number/len(some)%len(some)], some[number/len(some)/len(some)]}
			for i := range legs {
				legs[i].From, legs[i].To = ends[i][0], ends[i][1]
			}
			if !yield(legs) {
				return
			}
		}
	}
}

func TestBlundersOfStraightLegs(t *testing.T) {
	counts := map[string]int{}
	for legs := range straightLists {
		for kind, isSo := range kindsOfBlunders(checkBlunders(t, legs)) {
			if isSo {
				counts[kind]++
			}
		}
	}
	for _, kind := range []string{"several best", "several of one Leg", "smaller fix behind", "several suspects", "later suspect", "not left", "same", "no fix", "three fixes", "fourth"} {
		if counts[kind] < 20 {
			t.Errorf("only %d lists of the kind %q", counts[kind], kind)
		}
	}
}

func kindsOfBlunders(s ruledStrains) map[string]bool {
	whole, suspects, choices := s.whole(s.legs), s.suspects(), s.choices(s.legs)
	cleaned, made := s.cleaned()
	kinds := map[string]bool{
		"strain": whole.Sign() > 0, "no strain": whole.Sign() == 0, "bridge and loop": len(suspects) > 0 && len(suspects) < len(s.placed),
		"apart": len(s.net.apart) > 0, "nobody": len(suspects) == 0, "later suspect": len(suspects) > 0 && suspects[0] != s.placed[0],
		"no fix": len(made) == 0 && whole.Sign() > 0, "one fix": len(made) == 1, "two fixes": len(made) == 2, "three fixes": len(made) == 3, "fourth": len(made) == 3 && len(s.choices(cleaned)) > 0,
	}
	for i, leg := range suspects {
		strain, _ := s.strain(s.legs, 1<<leg)
		first, _ := s.strain(s.legs, 1<<suspects[0])
		kinds["several suspects"] = kinds["several suspects"] || i > 0 && strain.Cmp(first) == 0
		kinds["not left"] = kinds["not left"] || strain.Sign() == 0 && whole.Sign() > 0
		kinds["smaller"] = kinds["smaller"] || strain.Sign() > 0 && strain.Cmp(whole) < 0
		kinds["same"] = kinds["same"] || whole.Sign() > 0 && strain.Cmp(whole) == 0
	}
	for _, choice := range made {
		kinds[[]string{"", "FixBack", "FixSlope", "FixLonger", "FixShorter"}[choice.fix]] = true
	}
	for i, choice := range choices {
		if i > 0 && choice.strain.Cmp(choices[0].strain) == 0 {
			kinds["several best"] = true
			kinds["several of one Leg"] = kinds["several of one Leg"] || choice.leg == choices[0].leg
			kinds["smaller fix behind"] = kinds["smaller fix behind"] || choice.fix < choices[0].fix
		}
	}
	return kinds
}

// TestBlundersOfAllShortLists checks the fixes of those that have at most 3 Legs only.
func TestBlundersOfAllShortLists(t *testing.T) {
	for legs := range allShortLists {
		want := ruledStrainsOf(legs)
		checkLeavingOut(t, want)
		if len(legs) < 4 {
			checkFixes(t, want)
		}
	}
}

func TestBlundersOfTheMostLegs(t *testing.T) {
	n := numbers{48}
	for range 30 {
		legs := n.legsAmong(impl.MaxStations, impl.MaxLegs+1)
		checkBlunders(t, legs[:impl.MaxLegs])
		checkNoBlunders(t, legs)
	}
	for _, list := range [][]impl.Leg{cube(), moebius(), bipartite([]int{0, 1, 2}, []int{3, 4, 5, 6}), thereAndBack(impl.MaxLegs), legsBetween(7, 6, 5, 4, 3, 2, 1, 0, 2, 4, 6, 0, 7)} {
		checkBlunders(t, list)
		for blunders := range 4 {
			legs := n.blundered(list, blunders)
			checkBlunders(t, legs)
			checkNoBlunders(t, append(legs, legs[n.next(len(legs))]))
		}
	}
	checkNoBlunders(t, thereAndBack(impl.MaxLegs+1))
	checkNoBlunders(t, thereAndBack(1000))
	checkNoBlunders(t, slices.Repeat(joined([2]int{5, 6}), impl.MaxLegs+1))
}

func TestListsThatAreNoLegsHaveNoBlunders(t *testing.T) {
	checkBlunders(t, legsBetween(0, 1, 2, 3, 0))
	for _, legs := range spoiltLegLists() {
		checkNoBlunders(t, legs)
	}
}

func TestBlunderFunctionsReturnForAllArguments(t *testing.T) {
	for i, x := range oddLegs() {
		list := []impl.Leg{eastward(0, 1, 20), x, northward(1, 7, 20), upward(7, 0, 20)}[:2+i%3]
		leg, fix := legNumbers[i%len(legNumbers)], legNumbers[i%13]
		if ruledLeg(x) {
			want := ruledStrainsOf(list)
			checkLeavingOut(t, want)
			if i%7 == 0 {
				checkFixes(t, want)
			}
			if !slices.Contains(want.placed, leg) || fix < 1 || fix > 4 {
				checkNoFix(t, list, leg, fix)
			}
			continue
		}
		checkNoFix(t, list, leg, fix)
		checkNoFix(t, list, 0, impl.FixBack)
		checkNoWithout(t, list, leg)
		checkNoWithout(t, list, 1)
		checkSuspect(t, list, 0, false)
		checkBest(t, list, 0, 0)
		checkNoOrder(t, list, shaft)
		checkNoOrder(t, shaft, list)
		num, den, one := impl.StrainOf(list)
		cleaned, count, two := impl.CleanLegs(list)
		if one || two || num != 0 || den != 0 || len(cleaned) != 0 || count != 0 {
			t.Errorf("%v: %d, %d, %v; %v, %d, %v", list, num, den, one, cleaned, count, two)
		}
	}
}

func TestBlunderFunctionsLeaveTheirLists(t *testing.T) {
	// Behind the length of a list there are Legs that are neither read nor written.
	legs := append(slices.Clone(shaft), eastward(0, 5, 500), impl.Leg{From: -7, To: 77, Tape: 777})
	before := slices.Clone(legs)
	for count := range len(shaft) + 1 {
		checkBlunders(t, legs[:count])
	}
	checkNoBlunders(t, legs)
	if !slices.Equal(legs, before) {
		t.Error("the list was modified", legs)
	}
	full := append(cube(), impl.Leg{})[:impl.MaxLegs]
	checkBlunders(t, full)
	checkOrder(t, full, full[:8], 1)
	if !slices.Equal(full, cube()) || full[:impl.MaxLegs+1][impl.MaxLegs] != (impl.Leg{}) {
		t.Error("a list was modified", full)
	}
}

// TestResultsOfBlunderFunctionsAreTheirOwn writes to all results and behind their lengths, and
// asks again.
func TestResultsOfBlunderFunctionsAreTheirOwn(t *testing.T) {
	blunder := []impl.Leg{eastward(0, 1, 200), westward(0, 1, 200)}
	for _, list := range [][]impl.Leg{nil, {}, shaft, legsBetween(0, 1, 2, 3), blunder, cube()} {
		legs := append(slices.Clone(list), upward(0, 1, 1), impl.Leg{})[:len(list)]
		behind := slices.Clone(legs[:cap(legs)])
		want, made := ruledStrainsOf(list).cleaned()
		for range 2 {
			cleaned, count, ok := impl.CleanLegs(legs)
			again, _, _ := impl.CleanLegs(legs)
			if !ok || count != len(made) || !slices.Equal(cleaned, want) {
				t.Errorf("CleanLegs(%v) = %v, %d, %v", legs, cleaned, count, ok)
			}
			results := [][]impl.Leg{cleaned}
			for leg := range legs {
				for _, fix := range fixes {
					after, _ := impl.FixLeg(legs, leg, fix)
					results = append(results, after)
				}
			}
			for _, result := range results {
				clear(result[:cap(result)])
			}
			if !slices.Equal(again, want) || !slices.Equal(legs[:cap(legs)], behind) {
				t.Error("a result shares memory", again, legs[:cap(legs)])
			}
		}
	}
}
