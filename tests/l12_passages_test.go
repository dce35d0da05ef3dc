package tests

import (
	"math"
	"math/big"
	"slices"
	"testing"

	"loop.example/g00933/impl"
)

// passage takes the numbers in the order of the fields.
func passage(station, left, right, above, below int) impl.Passage {
	return impl.Passage{Station: station, Left: left, Right: right, Above: above, Below: below}
}

// square is a Passage with the same distance to all sides.
func square(station, side int) impl.Passage { return passage(station, side, side, side, side) }

// passageFields tell the four numbers of a Passage apart from its Station.
var passageFields = []struct {
	name string
	of   func(p *impl.Passage) *int
}{
	{"Left", func(p *impl.Passage) *int { return &p.Left }},
	{"Right", func(p *impl.Passage) *int { return &p.Right }},
	{"Above", func(p *impl.Passage) *int { return &p.Above }},
	{"Below", func(p *impl.Passage) *int { return &p.Below }},
}

func ruledPassage(p impl.Passage) bool {
	for _, field := range passageFields {
		if n := *field.of(&p); n < 0 || n > 200 {
			return false
		}
	}
	return p.Station >= 0 && p.Station <= 7
}

// ruledPassages follows the document's words on Passages.
func ruledPassages(list []impl.Passage) bool {
	for i, p := range list {
		for _, other := range list[:i] {
			if other.Station >= p.Station {
				return false
			}
		}
		if !ruledPassage(p) {
			return false
		}
	}
	return true
}

// ruledArea adds the four quarters around a station.
func ruledArea(list []impl.Passage, station int) int {
	area := 0
	for _, p := range list {
		if p.Station == station {
			area += p.Left*p.Above + p.Left*p.Below + p.Right*p.Above + p.Right*p.Below
		}
	}
	return area
}

// ruledVolume adds a fraction for each end of each Leg.
func ruledVolume(list []impl.Passage, legs []impl.Leg) *big.Rat {
	volume := new(big.Rat)
	for _, x := range legs {
		volume.Add(volume, fraction(ruledArea(list, x.From)*x.Tape, 2))
		volume.Add(volume, fraction(ruledArea(list, x.To)*x.Tape, 2))
	}
	return volume
}

// ruledWidest is told for at least one Passage.
func ruledWidest(list []impl.Passage) int {
	widest := list[len(list)-1].Station
	for _, p := range slices.Backward(list) {
		if ruledArea(list, p.Station) >= ruledArea(list, widest) {
			widest = p.Station
		}
	}
	return widest
}

func ruledFitting(list []impl.Passage, width, height int) []int {
	fitting := []int{}
	for _, p := range list {
		if width-p.Left <= p.Right && height-p.Above <= p.Below {
			fitting = append(fitting, p.Station)
		}
	}
	return fitting
}

func ruledMerged(a, b []impl.Passage) []impl.Passage {
	merged := []impl.Passage{}
	for station := range impl.MaxStations {
		both := []impl.Passage{}
		for _, p := range slices.Concat(a, b) {
			if p.Station == station {
				both = append(both, p)
			}
		}
		if len(both) == 0 {
			continue
		}
		p := both[0]
		for _, field := range passageFields {
			*field.of(&p) = min(*field.of(&both[0]), *field.of(&both[len(both)-1]))
		}
		merged = append(merged, p)
	}
	return merged
}

// ruledWalls turns the direction of the Leg by a right angle instead of its Compass: to the left
// of an East and a North lie the opposite North and the East.
func ruledWalls(list []impl.Passage, x impl.Leg) ([4]impl.Shift, bool) {
	walls, along, ends := [4]impl.Shift{}, impl.Shift{}, 0
	for i, station := range []int{x.From, x.To} {
		for _, p := range list {
			if p.Station != station {
				continue
			}
			ends++
			left := impl.Shift{East: -ruledPart(p.Left, ruledCosine(x.Compass)), North: ruledPart(p.Left, ruledSine(x.Compass))}
			right := impl.Shift{East: ruledPart(p.Right, ruledCosine(x.Compass)), North: -ruledPart(p.Right, ruledSine(x.Compass))}
			walls[2*i], walls[2*i+1] = plus(along, left), plus(along, right)
		}
		along = ruledShift(x)
	}
	if ends != 2 {
		return [4]impl.Shift{}, false
	}
	return walls, true
}

func ruledMean(list []impl.Passage) *big.Rat {
	sum := 0
	for _, p := range list {
		sum += ruledArea(list, p.Station)
	}
	return fraction(sum, len(list))
}

func checkArea(t *testing.T, list []impl.Passage, station, want int) {
	t.Helper()
	if n, ok := impl.AreaAt(list, station); !ok || n != want {
		t.Errorf("AreaAt(%v, %d) = %d, %v, not %d", list, station, n, ok, want)
	}
}

func checkNoArea(t *testing.T, list []impl.Passage, station int) {
	t.Helper()
	if n, ok := impl.AreaAt(list, station); ok || n != 0 {
		t.Errorf("AreaAt(%v, %d) = %d, %v", list, station, n, ok)
	}
}

func checkVolume(t *testing.T, list []impl.Passage, legs []impl.Leg, want *big.Rat) {
	t.Helper()
	num, den, ok := impl.VolumeOf(list, legs)
	if !ok || int64(num) != want.Num().Int64() || int64(den) != want.Denom().Int64() {
		t.Errorf("VolumeOf(%v, %v) = %d, %d, %v, not %v", list, legs, num, den, ok, want)
	}
}

func checkNoVolume(t *testing.T, list []impl.Passage, legs []impl.Leg) {
	t.Helper()
	if num, den, ok := impl.VolumeOf(list, legs); ok || num != 0 || den != 0 {
		t.Errorf("VolumeOf(%v, %v) = %d, %d, %v", list, legs, num, den, ok)
	}
}

func checkWidest(t *testing.T, list []impl.Passage, want int) {
	t.Helper()
	if station, ok := impl.WidestPassage(list); !ok || station != want {
		t.Errorf("WidestPassage(%v) = %d, %v, not %d", list, station, ok, want)
	}
}

func checkNoWidest(t *testing.T, list []impl.Passage) {
	t.Helper()
	if station, ok := impl.WidestPassage(list); ok || station != 0 {
		t.Errorf("WidestPassage(%v) = %d, %v", list, station, ok)
	}
}

func checkFitting(t *testing.T, list []impl.Passage, width, height int, want ...int) {
	t.Helper()
	if fitting, ok := impl.FittingStations(list, width, height); !ok || !slices.Equal(fitting, want) {
		t.Errorf("FittingStations(%v, %d, %d) = %v, %v, not %v", list, width, height, fitting, ok, want)
	}
}

func checkNoFitting(t *testing.T, list []impl.Passage, width, height int) {
	t.Helper()
	if fitting, ok := impl.FittingStations(list, width, height); ok || len(fitting) != 0 {
		t.Errorf("FittingStations(%v, %d, %d) = %v, %v", list, width, height, fitting, ok)
	}
}

// checkMergedPassages checks both orders, which tell the same.
func checkMergedPassages(t *testing.T, a, b []impl.Passage, want ...impl.Passage) {
	t.Helper()
	one, isOne := impl.MergePassages(a, b)
	two, isTwo := impl.MergePassages(b, a)
	if !isOne || !isTwo || !slices.Equal(one, want) || !slices.Equal(two, want) {
		t.Errorf("MergePassages of %v and %v = %v, %v, and %v, %v, not %v", a, b, one, isOne, two, isTwo, want)
	}
}

func checkNotMerged(t *testing.T, a, b []impl.Passage) {
	t.Helper()
	one, isOne := impl.MergePassages(a, b)
	two, isTwo := impl.MergePassages(b, a)
	if isOne || isTwo || len(one) != 0 || len(two) != 0 {
		t.Errorf("MergePassages of %v and %v = %v, %v, and %v, %v", a, b, one, isOne, two, isTwo)
	}
}

func checkWalls(t *testing.T, list []impl.Passage, x impl.Leg, want ...impl.Shift) {
	t.Helper()
	if walls, ok := impl.WallsAt(list, x); !ok || !slices.Equal(walls[:], want) {
		t.Errorf("WallsAt(%v, %v) = %v, %v, not %v", list, x, walls, ok, want)
	}
}

func checkNoWalls(t *testing.T, list []impl.Passage, x impl.Leg) {
	t.Helper()
	if walls, ok := impl.WallsAt(list, x); ok || walls != [4]impl.Shift{} {
		t.Errorf("WallsAt(%v, %v) = %v, %v", list, x, walls, ok)
	}
}

// checkAnyWalls checks a valid Leg, whether its ends have Passages or not.
func checkAnyWalls(t *testing.T, list []impl.Passage, x impl.Leg) {
	t.Helper()
	if want, ok := ruledWalls(list, x); ok {
		checkWalls(t, list, x, want[:]...)
	} else {
		checkNoWalls(t, list, x)
	}
}

func checkMirrored(t *testing.T, x, want impl.Passage) {
	t.Helper()
	if y, ok := impl.MirrorPassage(x); !ok || y != want {
		t.Errorf("MirrorPassage(%v) = %v, %v, not %v", x, y, ok, want)
	}
}

func checkNotMirrored(t *testing.T, x impl.Passage) {
	t.Helper()
	if y, ok := impl.MirrorPassage(x); ok || y != (impl.Passage{}) {
		t.Errorf("MirrorPassage(%v) = %v, %v", x, y, ok)
	}
}

func checkMean(t *testing.T, list []impl.Passage, want *big.Rat) {
	t.Helper()
	num, den, ok := impl.MeanArea(list)
	if !ok || int64(num) != want.Num().Int64() || int64(den) != want.Denom().Int64() {
		t.Errorf("MeanArea(%v) = %d, %d, %v, not %v", list, num, den, ok, want)
	}
}

func checkNoMean(t *testing.T, list []impl.Passage) {
	t.Helper()
	if num, den, ok := impl.MeanArea(list); ok || num != 0 || den != 0 {
		t.Errorf("MeanArea(%v) = %d, %d, %v", list, num, den, ok)
	}
}

// checkPassages checks all functions at Passages against the document's words.
func checkPassages(t *testing.T, list []impl.Passage) {
	t.Helper()
	if !impl.ArePassages(list) {
		t.Errorf("ArePassages(%v) is false", list)
	}
	for station := range impl.MaxStations {
		checkArea(t, list, station, ruledArea(list, station))
	}
	for from := range impl.MaxStations {
		to := (from + 3) % impl.MaxStations
		x := impl.Leg{From: from, To: to, Tape: 7 + from, Compass: 50 * from, Slope: 20*from - 60}
		checkVolume(t, list, []impl.Leg{x}, ruledVolume(list, []impl.Leg{x}))
		checkAnyWalls(t, list, x)
	}
	checkVolume(t, list, shaft, ruledVolume(list, shaft))
	checkFitting(t, list, 1, 1, ruledFitting(list, 1, 1)...)
	checkMergedPassages(t, list, nil, list...)
	checkMergedPassages(t, list, list, list...)
	if len(list) == 0 {
		checkNoWidest(t, list)
		checkNoMean(t, list)
		return
	}
	checkWidest(t, list, ruledWidest(list))
	checkMean(t, list, ruledMean(list))
	for _, p := range list {
		width, height := p.Left+p.Right, p.Above+p.Below
		for _, opening := range [][2]int{{width, height}, {width + 1, height}, {width, height + 1}} {
			if opening[0] < 1 || opening[1] < 1 {
				checkNoFitting(t, list, opening[0], opening[1])
			} else {
				checkFitting(t, list, opening[0], opening[1], ruledFitting(list, opening[0], opening[1])...)
			}
		}
		checkMirrored(t, p, passage(p.Station, p.Right, p.Left, p.Above, p.Below))
	}
}

// checkNoPassages checks that no function takes the list, whatever else it is asked for.
func checkNoPassages(t *testing.T, list []impl.Passage) {
	t.Helper()
	if impl.ArePassages(list) {
		t.Errorf("ArePassages(%v)", list)
	}
	for station := -1; station <= impl.MaxStations; station++ {
		checkNoArea(t, list, station)
	}
	for _, p := range list {
		checkNoArea(t, list, p.Station)
		checkNoWalls(t, list, eastward(p.Station, (p.Station+1)%impl.MaxStations, 10))
		if !ruledPassage(p) {
			checkNotMirrored(t, p)
		}
	}
	checkNoVolume(t, list, nil)
	checkNoVolume(t, list, shaft)
	checkNoWidest(t, list)
	checkNoFitting(t, list, 1, 1)
	checkNoFitting(t, list, 401, 401)
	checkNotMerged(t, list, nil)
	checkNotMerged(t, list, list)
	checkNotMerged(t, list, tube())
	checkNoWalls(t, list, eastward(0, 1, 10))
	checkNoWalls(t, list, eastward(6, 7, 10))
	checkNoMean(t, list)
}

// tube has a Passage at each station.
func tube() []impl.Passage {
	list := []impl.Passage{}
	for station := range impl.MaxStations {
		list = append(list, passage(station, 10+station, 20, 5, 3*station))
	}
	return list
}

// spoiltPassages are invalid in one field each.
func spoiltPassages() []impl.Passage {
	list := []impl.Passage{}
	for _, n := range []int{-1, 8, -8, 1 << 32, math.MinInt, math.MaxInt} {
		list = append(list, passage(n, 1, 2, 3, 4))
	}
	for _, field := range passageFields {
		for _, n := range []int{-1, 201, -200, 1 << 32, math.MinInt, math.MaxInt} {
			p := passage(3, 1, 2, 3, 4)
			*field.of(&p) = n
			list = append(list, p)
		}
	}
	return list
}

func TestPassageLimits(t *testing.T) {
	if impl.MaxWidth != 200 {
		t.Error("limit", impl.MaxWidth)
	}
}

func TestPassagesAreAtAnyStationsInOrder(t *testing.T) {
	checkPassages(t, nil)
	checkPassages(t, []impl.Passage{})
	checkPassages(t, []impl.Passage{{}})
	checkPassages(t, tube())
	for chosen := range 1 << impl.MaxStations {
		list := slices.DeleteFunc(tube(), func(p impl.Passage) bool { return chosen>>p.Station%2 == 0 })
		checkPassages(t, list)
		for station := range impl.MaxStations {
			if chosen>>station%2 == 0 {
				checkArea(t, list, station, 0)
			} else {
				checkArea(t, list, station, (30+station)*(5+3*station))
			}
		}
		if len(list) < 2 {
			continue
		}
		slices.Reverse(list)
		checkNoPassages(t, list)
	}
	long := []impl.Passage{}
	for station := range 1000 {
		long = append(long, square(station, 1))
	}
	checkPassages(t, long[:8])
	checkNoPassages(t, long[:9])
	checkNoPassages(t, long[1:9])
	checkNoPassages(t, long)
}

func TestStationsOfPassagesAscend(t *testing.T) {
	checkNoPassages(t, []impl.Passage{square(0, 1), square(0, 1)})
	checkNoPassages(t, []impl.Passage{square(7, 1), square(7, 2)})
	checkNoPassages(t, []impl.Passage{square(7, 1), square(6, 1)})
	checkPassages(t, []impl.Passage{square(6, 1), square(7, 1)})
	for i := range impl.MaxStations - 1 {
		list := tube()
		list[i].Station = list[i+1].Station
		checkNoPassages(t, list)
		checkNoPassages(t, list[i:][:2])
		list[i+1].Station--
		checkNoPassages(t, list)
		checkNoPassages(t, list[i:][:2])
		list[i].Station, list[i+1].Station = i, i
		checkNoPassages(t, list)
	}
}

func TestPassagesHaveNumbersWithinBounds(t *testing.T) {
	for _, field := range passageFields {
		for _, n := range []int{0, 1, 100, 199, 200} {
			for station := range impl.MaxStations {
				p := passage(station, 1, 2, 3, 4)
				*field.of(&p) = n
				checkPassages(t, []impl.Passage{p})
				checkPassages(t, slices.Replace(tube(), station, station+1, p))
			}
		}
	}
	checkPassages(t, []impl.Passage{square(0, 0), square(7, 200)})
	for _, p := range spoiltPassages() {
		checkNoPassages(t, []impl.Passage{p})
		checkNoPassages(t, []impl.Passage{square(0, 1), p})
		checkNoPassages(t, []impl.Passage{p, square(7, 1)})
		checkNoPassages(t, slices.Replace(tube(), 3, 4, p))
		checkNotMirrored(t, p)
	}
	// The areas of these, taken as they are, would be those of valid ones.
	checkNoPassages(t, []impl.Passage{passage(0, -1, 2, 3, 4)})
	checkNoPassages(t, []impl.Passage{passage(0, -2, -2, -3, -4)})
	checkNoPassages(t, []impl.Passage{passage(0, 201, 0, 1, 1)})
}

func TestAreasAtKnownStations(t *testing.T) {
	list := []impl.Passage{passage(0, 10, 20, 5, 5), passage(1, 5, 5, 10, 0), passage(3, 200, 200, 200, 200), passage(4, 0, 0, 9, 9), passage(5, 9, 9, 0, 0), passage(7, 0, 1, 1, 0)}
	for station, want := range []int{300, 100, 0, 160000, 0, 0, 0, 1} {
		checkArea(t, list, station, want)
		checkArea(t, nil, station, 0)
		checkArea(t, list[:1], station, ruledArea(list[:1], station))
	}
	for _, station := range []int{-1, 8, -8, 1 << 32, math.MinInt, math.MaxInt} {
		checkNoArea(t, list, station)
		checkNoArea(t, nil, station)
		checkNoArea(t, tube(), station)
	}
}

// oddHall has odd areas at the stations 0 and 1, even ones at 2 and 3, none at 4, and no
// Passages at 5, 6 and 7.
func oddHall() []impl.Passage {
	return []impl.Passage{passage(0, 1, 2, 3, 4), passage(1, 0, 5, 0, 7), passage(2, 2, 2, 3, 3), passage(3, 1, 1, 0, 5), passage(4, 5, 5, 0, 0)}
}

func TestVolumesAtKnownLegs(t *testing.T) {
	list := oddHall()
	cases := []struct {
		want *big.Rat
		legs []impl.Leg
	}{
		{fraction(0, 1), nil},
		{fraction(0, 1), []impl.Leg{}},
		{fraction(28*10, 1), []impl.Leg{eastward(0, 1, 10)}},
		{fraction(28*7, 1), []impl.Leg{upward(1, 0, 7)}},
		{fraction(45*7, 2), []impl.Leg{northward(0, 2, 7)}},
		{fraction(45*3, 1), []impl.Leg{northward(2, 0, 6)}},
		{fraction(17, 1), []impl.Leg{eastward(2, 3, 1)}},
		// An end without a Passage, or with one without an area.
		{fraction(21, 2), []impl.Leg{eastward(0, 5, 1)}},
		{fraction(21, 2), []impl.Leg{eastward(7, 0, 1)}},
		{fraction(21, 2), []impl.Leg{eastward(0, 4, 1)}},
		{fraction(12*499, 1), []impl.Leg{eastward(6, 2, 499)}},
		// Both ends.
		{fraction(0, 1), []impl.Leg{eastward(5, 6, 333)}},
		{fraction(0, 1), []impl.Leg{eastward(4, 7, 333), eastward(7, 4, 1)}},
		// Halves that are whole together, and that are not.
		{fraction(21, 1), []impl.Leg{eastward(0, 5, 1), eastward(5, 0, 1)}},
		{fraction(63, 2), []impl.Leg{eastward(0, 5, 1), eastward(5, 0, 1), eastward(0, 5, 1)}},
		{fraction(28, 1), []impl.Leg{eastward(0, 5, 1), eastward(1, 5, 1)}},
		{fraction(40, 1), []impl.Leg{eastward(0, 5, 1), eastward(1, 5, 1), eastward(2, 5, 1)}},
	}
	for _, c := range cases {
		checkVolume(t, list, c.legs, c.want)
		checkVolume(t, nil, c.legs, fraction(0, 1))
		checkVolume(t, []impl.Passage{{}, {Station: 7, Left: 200}}, c.legs, fraction(0, 1))
	}
	widest := []impl.Passage{square(0, 200), square(1, 200)}
	most := thereAndBack(impl.MaxLegs)
	for i := range most {
		most[i].Tape = impl.MaxTape
	}
	checkVolume(t, widest, most, fraction(160000*500*12, 1))
	checkVolume(t, widest[:1], most, fraction(160000*500*6, 1))
}

func TestVolumesOfInvalidLegs(t *testing.T) {
	for _, legs := range spoiltLegLists() {
		for _, list := range [][]impl.Passage{nil, oddHall(), tube()} {
			checkNoVolume(t, list, legs)
		}
	}
	checkVolume(t, tube(), thereAndBack(12), ruledVolume(tube(), thereAndBack(12)))
	checkNoVolume(t, tube(), thereAndBack(13))
	checkNoVolume(t, nil, thereAndBack(1000))
}

// toldVolume is nothing if there is none.
func toldVolume(t *testing.T, list []impl.Passage, legs []impl.Leg) *big.Rat {
	t.Helper()
	num, den, ok := impl.VolumeOf(list, legs)
	if !ok || den < 1 {
		t.Fatalf("VolumeOf(%v, %v) = %d, %d, %v", list, legs, num, den, ok)
	}
	return fraction(num, den)
}

// checkAddedVolumes checks that the volumes of two lists are together that of both, one behind
// the other.
func checkAddedVolumes(t *testing.T, list []impl.Passage, a, b []impl.Leg) {
	t.Helper()
	sum := new(big.Rat).Add(toldVolume(t, list, a), toldVolume(t, list, b))
	if whole := toldVolume(t, list, slices.Concat(a, b)); whole.Cmp(sum) != 0 {
		t.Errorf("with %v, the volumes along %v and %v are %v together, but %v one behind the other", list, a, b, sum, whole)
	}
	checkVolume(t, list, slices.Concat(a, b), sum)
	checkVolume(t, list, slices.Concat(b, a), sum)
}

func TestVolumesAddUp(t *testing.T) {
	odd, even, none := []impl.Leg{eastward(0, 2, 7), upward(5, 1, 9)}, []impl.Leg{eastward(0, 1, 7), eastward(2, 3, 9)}, []impl.Leg{eastward(4, 5, 3)}
	one, both := odd[:1], slices.Concat(odd[:1], even)
	lists := [][]impl.Leg{nil, {}, odd, even, none, one, both, slices.Concat(odd, odd), slices.Concat(none, odd, even)}
	for _, a := range lists {
		for _, b := range lists {
			checkAddedVolumes(t, oddHall(), a, b)
			checkAddedVolumes(t, tube(), a, b)
			checkAddedVolumes(t, nil, a, b)
		}
	}
	n, counts := numbers{12}, map[string]int{}
	for i := range 1000 {
		list, legs := n.passages(i%9), n.legsAmong(2+i%7, i%13)
		for at := range len(legs) + 1 {
			checkAddedVolumes(t, list, legs[:at], legs[at:])
			front, back := toldVolume(t, list, legs[:at]), toldVolume(t, list, legs[at:])
			switch {
			case front.IsInt() && back.IsInt():
				counts["whole ones"]++
			case !front.IsInt() && !back.IsInt():
				counts["halves"]++
			default:
				counts["a half and a whole one"]++
			}
		}
		stopIfFailed(t)
	}
	for _, kind := range []string{"whole ones", "halves", "a half and a whole one"} {
		if counts[kind] < 100 {
			t.Errorf("only %d times %s", counts[kind], kind)
		}
	}
}

func TestWidestPassagesOfKnownLists(t *testing.T) {
	checkNoWidest(t, nil)
	checkNoWidest(t, []impl.Passage{})
	for station := range impl.MaxStations {
		checkWidest(t, []impl.Passage{square(station, 0)}, station)
		checkWidest(t, []impl.Passage{square(station, 200)}, station)
		// The one with the greatest area stands at each place.
		checkWidest(t, slices.Replace(tube(), station, station+1, square(station, 200)), station)
	}
	// Of several with the greatest area, the first one stands at each place.
	for first := range impl.MaxStations {
		for last := first; last < impl.MaxStations; last++ {
			list := tube()
			list[first], list[last] = passage(first, 100, 100, 0, 50), passage(last, 25, 0, 200, 200)
			checkWidest(t, list, first)
			list[last].Left++
			checkWidest(t, list, last)
		}
	}
	// A greater width, height or sum of them is not a greater area.
	checkWidest(t, []impl.Passage{passage(1, 200, 200, 1, 0), passage(3, 21, 0, 0, 20), passage(5, 1, 0, 200, 199)}, 3)
	checkWidest(t, []impl.Passage{passage(1, 200, 200, 0, 0), passage(3, 1, 0, 0, 1)}, 3)
	// Where all areas are 0, a station without a Passage is not told.
	checkWidest(t, []impl.Passage{passage(2, 9, 9, 0, 0), passage(4, 0, 0, 9, 9), square(6, 0)}, 2)
	checkWidest(t, []impl.Passage{square(6, 0), passage(7, 0, 0, 200, 200)}, 6)
}

func TestFittingStationsOfKnownOpenings(t *testing.T) {
	list := []impl.Passage{passage(0, 10, 20, 5, 5), passage(2, 15, 15, 0, 11), passage(3, 0, 31, 10, 0), passage(4, 0, 0, 200, 200), passage(5, 200, 200, 0, 0), passage(7, 200, 200, 200, 200)}
	checkFitting(t, list, 30, 10, 0, 2, 3, 7)
	checkFitting(t, list, 31, 10, 3, 7)
	checkFitting(t, list, 30, 11, 2, 7)
	checkFitting(t, list, 31, 11, 7)
	checkFitting(t, list, 1, 1, 0, 2, 3, 7)
	checkFitting(t, list, 400, 400, 7)
	checkFitting(t, list, 401, 400)
	checkFitting(t, list, 400, 401)
	checkFitting(t, list[:5], 32, 1)
	checkFitting(t, list[:5], 1, 12)
	// It is neither turned nor moved to one side.
	checkFitting(t, list[:1], 10, 30)
	checkFitting(t, list[:1], 10, 11)
	checkFitting(t, list[3:4], 1, 400)
	checkFitting(t, list[4:5], 400, 1)
	for _, n := range []int{401, 1 << 32, math.MaxInt} {
		checkFitting(t, list, n, 1)
		checkFitting(t, list, 1, n)
		checkFitting(t, nil, n, n)
	}
	for _, n := range []int{0, -1, -400, -1 << 32, math.MinInt} {
		for _, some := range [][]impl.Passage{nil, list, {{}}} {
			checkNoFitting(t, some, n, 1)
			checkNoFitting(t, some, 1, n)
			checkNoFitting(t, some, n, n)
			checkNoFitting(t, some, n, math.MaxInt)
		}
	}
	checkFitting(t, nil, 1, 1)
	checkFitting(t, []impl.Passage{}, 400, 400)
	checkFitting(t, []impl.Passage{{}, passage(1, 1, 0, 0, 1)}, 1, 1, 1)
}

func TestMergedPassagesOfKnownLists(t *testing.T) {
	a, b, c, d := passage(0, 10, 20, 5, 5), passage(1, 5, 5, 10, 0), passage(4, 8, 3, 20, 2), passage(7, 200, 0, 200, 0)
	for _, empty := range [][]impl.Passage{nil, {}, tube()[:0]} {
		checkMergedPassages(t, empty, nil)
		checkMergedPassages(t, empty, []impl.Passage{a}, a)
		checkMergedPassages(t, empty, []impl.Passage{a, b, c, d}, a, b, c, d)
	}
	checkMergedPassages(t, []impl.Passage{a, c}, []impl.Passage{b, d}, a, b, c, d)
	checkMergedPassages(t, []impl.Passage{a, d}, []impl.Passage{b, c}, a, b, c, d)
	checkMergedPassages(t, []impl.Passage{a, b}, []impl.Passage{c, d}, a, b, c, d)
	checkMergedPassages(t, []impl.Passage{a}, []impl.Passage{d}, a, d)
	narrow := passage(4, 9, 2, 19, 3)
	checkMergedPassages(t, []impl.Passage{a, c}, []impl.Passage{narrow, d}, a, passage(4, 8, 2, 19, 2), d)
	checkMergedPassages(t, []impl.Passage{c}, []impl.Passage{b, narrow}, b, passage(4, 8, 2, 19, 2))
	checkMergedPassages(t, []impl.Passage{b, c, d}, []impl.Passage{{Station: 1}, narrow, {Station: 7, Left: 200, Above: 200}}, impl.Passage{Station: 1}, passage(4, 8, 2, 19, 2), d)
	checkMergedPassages(t, tube(), tube()[3:5], tube()...)
	checkMergedPassages(t, tube()[:4], tube()[4:], tube()...)
	checkMergedPassages(t, tube()[:5], tube()[3:], tube()...)
}

func TestEachNumberOfMergedPassagesIsTheSmallerOne(t *testing.T) {
	for station := range impl.MaxStations {
		for i, field := range passageFields {
			p := passage(station, 10, 20, 30, 40)
			less, more := p, p
			*field.of(&less), *field.of(&more) = *field.of(&p)-1, *field.of(&p)+1
			checkMergedPassages(t, []impl.Passage{p}, []impl.Passage{less}, less)
			checkMergedPassages(t, []impl.Passage{p}, []impl.Passage{more}, p)
			checkMergedPassages(t, slices.Replace(tube(), station, station+1, p), []impl.Passage{less}, slices.Replace(tube(), station, station+1, less)...)
			// This one is smaller, and another one is greater.
			other := passageFields[(i+1)%4]
			*other.of(&less) += 50
			want := less
			*other.of(&want) -= 50
			checkMergedPassages(t, []impl.Passage{p}, []impl.Passage{less}, want)
		}
	}
}

func TestInvalidPassagesAreNotMerged(t *testing.T) {
	for _, p := range spoiltPassages() {
		for _, list := range [][]impl.Passage{nil, {{}}, {square(3, 1)}, tube()} {
			checkNotMerged(t, []impl.Passage{p}, list)
			checkNotMerged(t, []impl.Passage{square(0, 1), p}, list)
			checkNotMerged(t, []impl.Passage{p}, []impl.Passage{p})
		}
	}
	for _, list := range [][]impl.Passage{nil, {square(5, 1)}, tube()} {
		checkNotMerged(t, []impl.Passage{square(5, 1), square(5, 1)}, list)
		checkNotMerged(t, []impl.Passage{square(5, 1), square(4, 1)}, list)
	}
}

// wallsAlong has a wall Left and Right of the Leg at both ends, which lie apart.
func wallsAlong(along impl.Shift, walls ...impl.Shift) []impl.Shift {
	return []impl.Shift{walls[0], walls[1], plus(along, walls[2]), plus(along, walls[3])}
}

func TestWallsAtKnownLegs(t *testing.T) {
	list := []impl.Passage{passage(0, 10, 20, 7, 7), passage(1, 5, 6, 9, 0)}
	for compass, walls := range map[int][]impl.Shift{
		0:   {{East: -10}, {East: 20}, {East: -5}, {East: 6}},
		90:  {{North: 10}, {North: -20}, {North: 5}, {North: -6}},
		180: {{East: 10}, {East: -20}, {East: 5}, {East: -6}},
		270: {{North: -10}, {North: 20}, {North: -5}, {North: 6}},
		// The direction of the left wall is -60, -1 and 240 degrees.
		30:  {{East: -9, North: 5}, {East: 17, North: -10}, {East: -4, North: 3}, {East: 5, North: -3}},
		89:  {{North: 10}, {North: -20}, {North: 5}, {North: -6}},
		330: {{East: -9, North: -5}, {East: 17, North: 10}, {East: -4, North: -3}, {East: 5, North: 3}},
		// That of the right wall is 359, 361 and 449 degrees.
		269: {{North: -10}, {North: 20}, {North: -5}, {North: 6}},
		271: {{North: -10}, {North: 20}, {North: -5}, {North: 6}},
		359: {{East: -10}, {East: 20}, {East: -5}, {East: 6}},
		45:  {{East: -7, North: 7}, {East: 14, North: -14}, {East: -4, North: 4}, {East: 4, North: -4}},
		315: {{East: -7, North: -7}, {East: 14, North: 14}, {East: -4, North: -4}, {East: 4, North: 4}},
	} {
		for _, slope := range []int{0, 30, -30, 90, -90} {
			x := impl.Leg{From: 0, To: 1, Tape: 100, Compass: compass, Slope: slope}
			checkWalls(t, list, x, wallsAlong(ruledShift(x), walls...)...)
			// Straight up and down, the walls alone tell the bearing.
			if slope == 90 || slope == -90 {
				checkWalls(t, list, x, wallsAlong(impl.Shift{Up: slope * 10 / 9}, walls...)...)
			}
		}
	}
	checkWalls(t, list, eastward(0, 1, 100), impl.Shift{North: 10}, impl.Shift{North: -20}, impl.Shift{East: 100, North: 5}, impl.Shift{East: 100, North: -6})
	checkWalls(t, list, northward(1, 0, 300), impl.Shift{East: -5}, impl.Shift{East: 6}, impl.Shift{East: -10, North: 300}, impl.Shift{East: 20, North: 300})
	// The Leg and the distance of its wall are rounded each by itself.
	short := impl.Leg{From: 0, To: 1, Tape: 3, Compass: 30}
	checkWalls(t, []impl.Passage{square(0, 1), square(1, 1)}, short, impl.Shift{East: -1, North: 1}, impl.Shift{East: 1, North: -1}, impl.Shift{East: 1, North: 4}, impl.Shift{East: 3, North: 2})
}

func TestWallsWithoutADistance(t *testing.T) {
	for compass := range 360 {
		x := impl.Leg{From: 6, To: 2, Tape: 123, Compass: compass, Slope: compass%181 - 90}
		along := ruledShift(x)
		checkWalls(t, []impl.Passage{{Station: 2}, {Station: 6}}, x, impl.Shift{}, impl.Shift{}, along, along)
		checkWalls(t, []impl.Passage{passage(2, 0, 0, 200, 200), passage(6, 0, 0, 1, 0)}, x, impl.Shift{}, impl.Shift{}, along, along)
		checkAnyWalls(t, []impl.Passage{passage(2, 0, 9, 0, 0), passage(6, 9, 0, 0, 0)}, x)
		checkAnyWalls(t, []impl.Passage{passage(2, 9, 0, 0, 0), passage(6, 0, 9, 0, 0)}, x)
	}
}

func TestWallsOfAllBearingsAndDistances(t *testing.T) {
	for compass := range 360 {
		for distance := range impl.MaxWidth + 1 {
			list := []impl.Passage{passage(3, distance, 200-distance, 1, 1), passage(4, 0, distance, 2, 2)}
			checkAnyWalls(t, list, impl.Leg{From: 3, To: 4, Tape: 1 + 2*distance, Compass: compass, Slope: max(-90, min(90, distance-100))})
			stopIfFailed(t)
		}
	}
}

// TestWallsAreTheSameTheOtherWay goes back along each Leg, with mirrored Passages.
func TestWallsAreTheSameTheOtherWay(t *testing.T) {
	n := numbers{9}
	for range 2000 {
		x, list, mirrored := n.leg(), n.passages(impl.MaxStations), []impl.Passage{}
		for _, p := range list {
			y, ok := impl.MirrorPassage(p)
			if !ok {
				t.Errorf("MirrorPassage(%v) = %v, %v", p, y, ok)
			}
			mirrored = append(mirrored, y)
		}
		forth, one := impl.WallsAt(list, x)
		reverse, _ := impl.ReverseLeg(x)
		back, two := impl.WallsAt(mirrored, reverse)
		if !one || !two {
			t.Errorf("WallsAt(%v, %v): %v, and back %v", list, x, one, two)
		}
		for i, wall := range back {
			if plus(ruledShift(x), wall) != forth[3-i] {
				t.Errorf("WallsAt(%v, %v) = %v, but back %v", list, x, forth, back)
			}
		}
		stopIfFailed(t)
	}
}

func TestWallsWithoutAPassage(t *testing.T) {
	for from := range impl.MaxStations {
		for to := range impl.MaxStations {
			if from == to {
				continue
			}
			x := impl.Leg{From: from, To: to, Tape: 50, Compass: 77, Slope: 12}
			here, there := []impl.Passage{square(from, 9)}, []impl.Passage{square(to, 9)}
			checkNoWalls(t, nil, x)
			checkNoWalls(t, here, x)
			checkNoWalls(t, there, x)
			checkNoWalls(t, slices.Delete(tube(), from, from+1), x)
			checkNoWalls(t, slices.Delete(tube(), to, to+1), x)
			both := ruledMerged(here, there)
			want, ok := ruledWalls(both, x)
			if !ok {
				t.Errorf("no walls with %v along %v", both, x)
			}
			checkWalls(t, both, x, want[:]...)
			checkAnyWalls(t, tube(), x)
		}
	}
}

func TestWallsAlongInvalidLegs(t *testing.T) {
	for _, x := range spoiltLegs() {
		checkNoWalls(t, tube(), x)
		checkNoWalls(t, nil, x)
		checkNoWalls(t, []impl.Passage{square(2, 5), square(3, 5)}, x)
	}
	for station := range impl.MaxStations {
		checkNoWalls(t, tube(), eastward(station, station, 10))
		checkNoWalls(t, tube(), eastward(station, -1, 10))
		checkNoWalls(t, tube(), eastward(8, station, 10))
	}
}

func TestMirroredPassages(t *testing.T) {
	checkMirrored(t, passage(3, 1, 2, 3, 4), passage(3, 2, 1, 3, 4))
	checkMirrored(t, passage(3, 2, 1, 3, 4), passage(3, 1, 2, 3, 4))
	checkMirrored(t, passage(0, 0, 200, 200, 0), passage(0, 200, 0, 200, 0))
	checkMirrored(t, passage(7, 5, 5, 0, 9), passage(7, 5, 5, 0, 9))
	checkMirrored(t, impl.Passage{}, impl.Passage{})
	n := numbers{4}
	for range 2000 {
		for _, p := range n.passages(1) {
			y, one := impl.MirrorPassage(p)
			z, two := impl.MirrorPassage(y)
			if !one || !two || z != p {
				t.Errorf("%v is mirrored to %v, %v, and this to %v, %v", p, y, one, z, two)
			}
		}
	}
	for _, p := range spoiltPassages() {
		checkNotMirrored(t, p)
	}
}

func TestMeanAreasOfKnownLists(t *testing.T) {
	checkNoMean(t, nil)
	checkNoMean(t, []impl.Passage{})
	area := func(station, n int) impl.Passage { return passage(station, n/2, n-n/2, 1, 0) }
	checkMean(t, []impl.Passage{area(0, 7)}, fraction(7, 1))
	checkMean(t, []impl.Passage{area(7, 7)}, fraction(7, 1))
	checkMean(t, []impl.Passage{area(0, 7), area(5, 9)}, fraction(8, 1))
	checkMean(t, []impl.Passage{area(0, 7), area(5, 8)}, fraction(15, 2))
	checkMean(t, []impl.Passage{area(0, 7), area(5, 0)}, fraction(7, 2))
	checkMean(t, []impl.Passage{area(0, 1), area(1, 1), area(2, 2), area(3, 2)}, fraction(3, 2))
	checkMean(t, []impl.Passage{area(0, 1), area(1, 0), area(2, 0), area(3, 0)}, fraction(1, 4))
	checkMean(t, []impl.Passage{area(0, 1), area(2, 1), area(4, 2)}, fraction(4, 3))
	for count := 1; count <= impl.MaxStations; count++ {
		flat, wide, one := []impl.Passage{}, []impl.Passage{}, []impl.Passage{}
		for station := range count {
			flat = append(flat, passage(station, 9, 9, 0, 0))
			wide = append(wide, square(station, 200))
			one = append(one, area(station, 1-min(station, 1)))
		}
		checkMean(t, flat, fraction(0, 1))
		checkMean(t, wide, fraction(160000, 1))
		checkMean(t, one, fraction(1, count))
	}
}

// passages makes count of them at random stations, some with many equal areas, some with none,
// and some at the limits.
func (n *numbers) passages(count int) []impl.Passage {
	low, high := 0, []int{0, 1, 2, 200, 200, 200}[n.next(6)]
	if n.next(4) == 0 {
		low = max(0, high-1)
	}
	isFlat := n.next(8) == 0
	list := []impl.Passage{}
	for station := range impl.MaxStations {
		if left := impl.MaxStations - station; n.next(left) >= count-len(list) {
			continue
		}
		p := passage(station, n.within(low, high), n.within(low, high), n.within(low, high), n.within(low, high))
		if isFlat {
			p.Above, p.Below = 0, 0
		}
		list = append(list, p)
	}
	return list
}

func kindsOfPassages(list []impl.Passage, legs []impl.Leg) map[string]bool {
	kinds := map[string]bool{"half": !ruledVolume(list, legs).IsInt(), "whole": ruledVolume(list, legs).IsInt()}
	for _, x := range legs {
		from, to := ruledArea(list, x.From), ruledArea(list, x.To)
		kinds["no area at one end"] = kinds["no area at one end"] || from == 0 != (to == 0)
		kinds["no area at both ends"] = kinds["no area at both ends"] || from == 0 && to == 0
		kinds["areas at both ends"] = kinds["areas at both ends"] || from > 0 && to > 0
	}
	if len(list) == 0 {
		return kinds
	}
	widest := ruledWidest(list)
	ties := 0
	for _, p := range list {
		if ruledArea(list, p.Station) == ruledArea(list, widest) {
			ties++
		}
	}
	kinds["no areas"] = ruledArea(list, widest) == 0
	kinds["several widest ones"] = ties > 1 && !kinds["no areas"]
	kinds["whole mean"] = ruledMean(list).IsInt()
	kinds["mean with the count"] = ruledMean(list).Denom().Int64() == int64(len(list)) && len(list) > 1
	kinds["reduced mean"] = !kinds["whole mean"] && !kinds["mean with the count"]
	return kinds
}

func TestManyPassages(t *testing.T) {
	n, counts := numbers{41}, map[string]int{}
	for i := range 3000 {
		list, other, legs := n.passages(i%9), n.passages(n.next(9)), n.legsAmong(2+i%7, i%13)
		checkPassages(t, list)
		checkVolume(t, list, legs, ruledVolume(list, legs))
		checkMergedPassages(t, list, other, ruledMerged(list, other)...)
		for _, x := range legs {
			checkAnyWalls(t, list, x)
		}
		for range 8 {
			width, height := n.within(1, 401), n.within(1, 401)
			checkFitting(t, list, width, height, ruledFitting(list, width, height)...)
			checkFitting(t, list, 1+width/100, 1+height/100, ruledFitting(list, 1+width/100, 1+height/100)...)
		}
		for kind, isSo := range kindsOfPassages(list, legs) {
			if isSo {
				counts[kind]++
			}
		}
		stopIfFailed(t)
	}
	for _, kind := range []string{"half", "whole", "no area at one end", "no area at both ends", "areas at both ends", "no areas", "several widest ones", "whole mean", "mean with the count", "reduced mean"} {
		if counts[kind] < 100 {
			t.Errorf("only %d lists of the kind %q", counts[kind], kind)
		}
	}
}

var passageNumbers = []int{math.MinInt, math.MinInt + 1, -1 << 62, -1 << 32, -201, -1, 0, 1, 7, 8, 199, 200, 201, 1 << 32, 1 << 62, math.MaxInt - 1, math.MaxInt}

func TestPassageFunctionsReturnForAllArguments(t *testing.T) {
	for _, a := range passageNumbers {
		checkAnyFitting(t, a)
		for _, b := range passageNumbers {
			for _, p := range []impl.Passage{passage(a, b, b, b, b), passage(b, a, 1, 2, 3), passage(b, 1, a, 2, 3), passage(1, a, b, 3, 4), passage(2, 3, a, b, 4), passage(4, 1, 3, a, b), passage(5, b, 1, 0, a)} {
				for _, list := range [][]impl.Passage{{p}, {square(0, 1), p}, {p, square(7, 1)}, {square(1, 1), p, square(5, 1)}} {
					if ruledPassages(list) {
						checkPassages(t, list)
					} else {
						checkNoPassages(t, list)
					}
				}
			}
		}
		stopIfFailed(t)
	}
	for _, x := range oddLegs() {
		legs := []impl.Leg{eastward(0, 1, 21), x}
		if ruledLeg(x) {
			checkVolume(t, oddHall(), legs, ruledVolume(oddHall(), legs))
			checkAnyWalls(t, oddHall(), x)
			checkAnyWalls(t, tube(), x)
		} else {
			checkNoVolume(t, oddHall(), legs)
			checkNoWalls(t, tube(), x)
			checkNoWalls(t, nil, x)
		}
	}
}

// checkAnyFitting checks openings with a number that may be anything.
func checkAnyFitting(t *testing.T, n int) {
	t.Helper()
	for _, list := range [][]impl.Passage{nil, tube(), {square(3, 200)}, {square(3, 100), square(4, 101)}} {
		for _, other := range passageNumbers {
			if n < 1 || other < 1 {
				checkNoFitting(t, list, n, other)
				continue
			}
			checkFitting(t, list, n, other, ruledFitting(list, n, other)...)
		}
	}
}

func TestPassageFunctionsLeaveTheirLists(t *testing.T) {
	// Behind the length of a list there are elements that are neither read nor written.
	list := append(tube(), passage(-7, 777, 777, 777, 777), passage(0, 1, 1, 1, 1))
	legs := append(slices.Clone(shaft), impl.Leg{From: -7, To: 77, Tape: 777})
	before := slices.Clone(list)
	for first := range impl.MaxStations + 1 {
		for last := first; last <= impl.MaxStations; last++ {
			checkPassages(t, list[first:last])
			checkMergedPassages(t, list[:first], list[last:impl.MaxStations], slices.Concat(before[:first], before[last:impl.MaxStations])...)
			checkMergedPassages(t, list[:last], list[first:impl.MaxStations], before[:impl.MaxStations]...)
			checkVolume(t, list[first:last], legs[:last], ruledVolume(list[first:last], shaft[:last]))
			if !slices.Equal(list, before) {
				t.Fatal("the list was modified", list)
			}
		}
	}
	checkNoPassages(t, list)
	checkNoPassages(t, list[:9])
	checkNoVolume(t, list[:8], legs)
	if !slices.Equal(list, before) || !slices.Equal(legs[:len(shaft)], shaft) || legs[len(shaft)] != (impl.Leg{From: -7, To: 77, Tape: 777}) {
		t.Error("a list was modified", list, legs)
	}
}

// TestResultsOfPassageFunctionsAreTheirOwn writes to all results and behind their lengths, and
// asks again.
func TestResultsOfPassageFunctionsAreTheirOwn(t *testing.T) {
	for _, a := range [][]impl.Passage{nil, tube()[:3], tube()[2:6], tube()} {
		for _, b := range [][]impl.Passage{nil, tube()[5:], {square(3, 9)}, tube()} {
			one, two := append(slices.Clone(a), make([]impl.Passage, 9)...)[:len(a)], append(slices.Clone(b), make([]impl.Passage, 9)...)[:len(b)]
			for range 2 {
				merged, _ := impl.MergePassages(one, two)
				again, ok := impl.MergePassages(one, two)
				for _, result := range [][]impl.Passage{merged[:cap(merged)], merged} {
					for i := range result {
						result[i] = square(-1, 777)
					}
				}
				if !ok || !slices.Equal(again, ruledMerged(a, b)) {
					t.Errorf("MergePassages(%v, %v) = %v, %v", a, b, again, ok)
				}
				fitting, _ := impl.FittingStations(one, 1, 1)
				for i := range fitting[:cap(fitting)] {
					fitting[:cap(fitting)][i] = 777
				}
				checkFitting(t, one, 1, 1, ruledFitting(a, 1, 1)...)
				walls, _ := impl.WallsAt(tube(), eastward(0, 1, 10))
				clear(walls[:])
				checkAnyWalls(t, tube(), eastward(0, 1, 10))
				for _, rest := range [][]impl.Passage{one[len(a):cap(one)][:9], two[len(b):cap(two)][:9]} {
					if !slices.Equal(rest, make([]impl.Passage, 9)) {
						t.Error("a result shares memory behind a list", rest)
					}
				}
				if !slices.Equal(one, a) || !slices.Equal(two, b) {
					t.Error("a result shares memory", one, two)
				}
			}
		}
	}
}
