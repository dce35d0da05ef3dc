package tests

import (
	"math"
	"slices"
	"testing"

	"loop.example/g00933/impl"
)

// pointsOf makes points of pairs of a Day and Tenths.
func pointsOf(pairs ...[2]int) []impl.DecPoint {
	list := []impl.DecPoint{}
	for _, pair := range pairs {
		list = append(list, impl.DecPoint{Day: pair[0], Tenths: pair[1]})
	}
	return list
}

// ruledPoints follows the document's words on points.
func ruledPoints(list []impl.DecPoint) bool {
	for i, p := range list {
		if p.Day < 0 || p.Day > 999 || p.Tenths < -900 || p.Tenths > 900 {
			return false
		}
		for _, other := range list[:i] {
			if other.Day >= p.Day {
				return false
			}
		}
	}
	return len(list) > 0 && len(list) <= 8
}

// exactDeclination is not rounded. A float tells halves exactly, and Tenths and days are so few
// that all other values lie far from a half.
func exactDeclination(list []impl.DecPoint, day int) float64 {
	for i, b := range list {
		if day > b.Day {
			continue
		}
		if i == 0 {
			return float64(b.Tenths)
		}
		a := list[i-1]
		return float64(a.Tenths) + float64((b.Tenths-a.Tenths)*(day-a.Day))/float64(b.Day-a.Day)
	}
	return float64(list[len(list)-1].Tenths)
}

// ruledDeclination relies on Round, which takes the one of two near numbers that is farther
// from 0.
func ruledDeclination(list []impl.DecPoint, day int) int {
	return int(math.Round(exactDeclination(list, day)))
}

// ruledTrue counts the bearings one by one from north on, to the right or to the left.
func ruledTrue(magnetic, declination int) int {
	bearing := magnetic + declination
	for bearing < 0 {
		bearing += 3600
	}
	for bearing > 3599 {
		bearing -= 3600
	}
	return bearing
}

func ruledDeclinations(list []impl.DecPoint) []int {
	all := []int{}
	for day := range 1000 {
		all = append(all, ruledDeclination(list, day))
	}
	return all
}

// ruledAdded is nothing if the result are no points.
func ruledAdded(list []impl.DecPoint, p impl.DecPoint) []impl.DecPoint {
	added := []impl.DecPoint{p}
	for _, other := range list {
		if other.Day != p.Day {
			added = append(added, other)
		}
	}
	slices.SortFunc(added, func(a, b impl.DecPoint) int {
		if a.Day < b.Day {
			return -1
		}
		return 1
	})
	if !ruledPoints(added) {
		return nil
	}
	return added
}

func withoutPoints(list []impl.DecPoint, indices ...int) []impl.DecPoint {
	others := []impl.DecPoint{}
	for i, p := range list {
		if !slices.Contains(indices, i) {
			others = append(others, p)
		}
	}
	return others
}

// changedDays tells on how many days the declination is another one without some points.
func changedDays(list []impl.DecPoint, indices ...int) int {
	others, changed := withoutPoints(list, indices...), 0
	if len(others) == 0 {
		return 1000
	}
	for day := range 1000 {
		if ruledDeclination(others, day) != ruledDeclination(list, day) {
			changed++
		}
	}
	return changed
}

func ruledNeedless(list []impl.DecPoint) []int {
	needless := []int{}
	for i := range list {
		if changedDays(list, i) == 0 {
			needless = append(needless, i)
		}
	}
	return needless
}

func checkDeclination(t *testing.T, list []impl.DecPoint, day, want int) {
	t.Helper()
	if n, ok := impl.DeclinationOn(list, day); !ok || n != want {
		t.Errorf("DeclinationOn(%v, %d) = %d, %v, not %d", list, day, n, ok, want)
	}
}

// checkCorrection checks both directions.
func checkCorrection(t *testing.T, list []impl.DecPoint, day, magnetic, bearing int) {
	t.Helper()
	if n, ok := impl.TrueBearing(list, day, magnetic); !ok || n != bearing {
		t.Errorf("TrueBearing(%v, %d, %d) = %d, %v, not %d", list, day, magnetic, n, ok, bearing)
	}
	if n, ok := impl.MagneticBearing(list, day, bearing); !ok || n != magnetic {
		t.Errorf("MagneticBearing(%v, %d, %d) = %d, %v, not %d", list, day, bearing, n, ok, magnetic)
	}
}

func checkNoCorrection(t *testing.T, list []impl.DecPoint, day, bearing int) {
	t.Helper()
	a, one := impl.TrueBearing(list, day, bearing)
	b, two := impl.MagneticBearing(list, day, bearing)
	c, three := impl.CorrectAll(list, []int{day}, []int{bearing})
	if one || two || three || a != 0 || b != 0 || len(c) != 0 {
		t.Errorf("%v, %d, %d: %d, %v; %d, %v; %v, %v", list, day, bearing, a, one, b, two, c, three)
	}
}

// checkNoDay checks that no function takes the day.
func checkNoDay(t *testing.T, list []impl.DecPoint, day int) {
	t.Helper()
	n, one := impl.DeclinationOn(list, day)
	forth, two := impl.ChangeBetween(list, day, 500)
	back, three := impl.ChangeBetween(list, 500, day)
	same, four := impl.ChangeBetween(list, day, day)
	if one || two || three || four || n != 0 || forth != 0 || back != 0 || same != 0 {
		t.Errorf("%v, %d: %d, %v; %d, %v; %d, %v; %d, %v", list, day, n, one, forth, two, back, three, same, four)
	}
	checkNoCorrection(t, list, day, 0)
	checkNoCorrection(t, list, day, 1800)
}

func checkCorrected(t *testing.T, list []impl.DecPoint, days, magnetic []int, want ...int) {
	t.Helper()
	if all, ok := impl.CorrectAll(list, days, magnetic); !ok || !slices.Equal(all, want) {
		t.Errorf("CorrectAll(%v, %v, %v) = %v, %v, not %v", list, days, magnetic, all, ok, want)
	}
}

func checkNotCorrected(t *testing.T, list []impl.DecPoint, days, magnetic []int) {
	t.Helper()
	if all, ok := impl.CorrectAll(list, days, magnetic); ok || len(all) != 0 {
		t.Errorf("CorrectAll(%v, %v, %v) = %v, %v", list, days, magnetic, all, ok)
	}
}

func checkDays(t *testing.T, list []impl.DecPoint, tenths, first, last int) {
	t.Helper()
	if a, b, ok := impl.DaysWith(list, tenths); !ok || a != first || b != last {
		t.Errorf("DaysWith(%v, %d) = %d, %d, %v, not %d, %d", list, tenths, a, b, ok, first, last)
	}
}

func checkNoDays(t *testing.T, list []impl.DecPoint, tenths int) {
	t.Helper()
	if a, b, ok := impl.DaysWith(list, tenths); ok || a != 0 || b != 0 {
		t.Errorf("DaysWith(%v, %d) = %d, %d, %v", list, tenths, a, b, ok)
	}
}

// checkChange checks both directions.
func checkChange(t *testing.T, list []impl.DecPoint, from, to, want int) {
	t.Helper()
	forth, one := impl.ChangeBetween(list, from, to)
	back, two := impl.ChangeBetween(list, to, from)
	if !one || !two || forth != want || back != -want {
		t.Errorf("ChangeBetween(%v, %d, %d) = %d, %v, and back %d, %v, not %d", list, from, to, forth, one, back, two, want)
	}
}

func checkAdded(t *testing.T, list []impl.DecPoint, p impl.DecPoint, want ...impl.DecPoint) {
	t.Helper()
	if added, ok := impl.AddPoint(list, p); !ok || !slices.Equal(added, want) {
		t.Errorf("AddPoint(%v, %v) = %v, %v, not %v", list, p, added, ok, want)
	}
}

func checkNotAdded(t *testing.T, list []impl.DecPoint, p impl.DecPoint) {
	t.Helper()
	if added, ok := impl.AddPoint(list, p); ok || len(added) != 0 {
		t.Errorf("AddPoint(%v, %v) = %v, %v", list, p, added, ok)
	}
}

func checkNeedless(t *testing.T, list []impl.DecPoint, want ...int) {
	t.Helper()
	if needless, ok := impl.NeedlessPoints(list); !ok || !slices.Equal(needless, want) {
		t.Errorf("NeedlessPoints(%v) = %v, %v, not %v", list, needless, ok, want)
	}
}

// checkNoPoints checks that no function takes the list, whatever else it is asked for.
func checkNoPoints(t *testing.T, list []impl.DecPoint) {
	t.Helper()
	if impl.ArePoints(list) {
		t.Errorf("ArePoints(%v)", list)
	}
	for _, day := range []int{-1, 0, 1, 500, 999, 1000} {
		checkNoDay(t, list, day)
	}
	for _, tenths := range []int{-901, -900, -1, 0, 1, 7, 900} {
		checkNoDays(t, list, tenths)
	}
	checkNotCorrected(t, list, nil, nil)
	checkNotCorrected(t, list, []int{0, 999}, []int{0, 3599})
	if needless, ok := impl.NeedlessPoints(list); ok || len(needless) != 0 {
		t.Errorf("NeedlessPoints(%v) = %v, %v", list, needless, ok)
	}
	if len(list) == 0 {
		return
	}
	// A point instead of an invalid one would leave valid ones.
	for _, p := range append(slices.Clone(list), impl.DecPoint{}, impl.DecPoint{Day: 500, Tenths: 7}, impl.DecPoint{Day: 999}) {
		p.Tenths = max(-900, min(900, p.Tenths))
		checkNotAdded(t, list, p)
	}
}

// stopIfFailed keeps a test of very many cases from telling all those that fail.
func stopIfFailed(t *testing.T) {
	t.Helper()
	if t.Failed() {
		t.FailNow()
	}
}

// checkPoints checks all functions at points against the document's words.
func checkPoints(t *testing.T, list []impl.DecPoint) {
	t.Helper()
	if !impl.ArePoints(list) {
		t.Errorf("ArePoints(%v) is false", list)
	}
	all := ruledDeclinations(list)
	first, last := map[int]int{}, map[int]int{}
	for day, tenths := range all {
		checkDeclination(t, list, day, tenths)
		stopIfFailed(t)
		if _, isThere := first[tenths]; !isThere {
			first[tenths] = day
		}
		last[tenths] = day
	}
	for _, p := range list {
		for tenths := p.Tenths - 2; tenths <= p.Tenths+2; tenths++ {
			if _, isThere := first[tenths]; isThere {
				checkDays(t, list, tenths, first[tenths], last[tenths])
			} else {
				checkNoDays(t, list, tenths)
			}
		}
	}
	checkNeedless(t, list, ruledNeedless(list)...)
}

// checkBesidePoints checks those that also take a day and a bearing, or a point.
func checkBesidePoints(t *testing.T, list []impl.DecPoint, n *numbers) {
	t.Helper()
	days, magnetic, bearings := []int{}, []int{}, []int{}
	for range 20 {
		day, other, bearing := n.next(1000), n.next(1000), n.next(3600)
		tenths := ruledDeclination(list, day)
		checkDays(t, list, tenths, slices.Index(ruledDeclinations(list), tenths), lastIndex(ruledDeclinations(list), tenths))
		checkCorrection(t, list, day, bearing, ruledTrue(bearing, tenths))
		checkChange(t, list, day, other, ruledDeclination(list, other)-tenths)
		days, magnetic, bearings = append(days, day), append(magnetic, bearing), append(bearings, ruledTrue(bearing, tenths))
		checkCorrected(t, list, days, magnetic, bearings...)
		p := impl.DecPoint{Day: day, Tenths: n.within(-901, 901)}
		if n.next(2) == 0 {
			p.Day = list[n.next(len(list))].Day
		}
		if want := ruledAdded(list, p); want != nil {
			checkAdded(t, list, p, want...)
		} else {
			checkNotAdded(t, list, p)
		}
	}
}

func lastIndex(list []int, n int) int {
	for i := len(list) - 1; i >= 0; i-- {
		if list[i] == n {
			return i
		}
	}
	return -1
}

// fullPoints are as many as there may be, at both ends of the days and of the declinations.
func fullPoints() []impl.DecPoint {
	return pointsOf([2]int{0, -900}, [2]int{1, 900}, [2]int{2, -900}, [2]int{300, -1}, [2]int{301, 0}, [2]int{700, 13}, [2]int{998, 900}, [2]int{999, -900})
}

func TestPointsAreOneToEightInOrder(t *testing.T) {
	checkNoPoints(t, nil)
	checkNoPoints(t, []impl.DecPoint{})
	for _, day := range []int{0, 1, 500, 998, 999} {
		for _, tenths := range []int{-900, -899, -1, 0, 1, 899, 900} {
			checkPoints(t, pointsOf([2]int{day, tenths}))
		}
	}
	full := fullPoints()
	for count := range full {
		checkPoints(t, full[:count+1])
		checkPoints(t, full[count:])
	}
	list := []impl.DecPoint{}
	for day := range 1000 {
		list = append(list, impl.DecPoint{Day: day})
	}
	for _, count := range []int{9, 10, 16, 100, 1000} {
		if impl.ArePoints(list[:count]) {
			t.Errorf("%d are points", count)
		}
	}
	checkPoints(t, list[:8])
	checkPoints(t, list[992:])
	checkNoPoints(t, list[:9])
	checkNoPoints(t, list[991:])
}

func TestPointsHaveDaysAndTenthsWithinBounds(t *testing.T) {
	for _, day := range []int{-1, 1000, -999, 1999, math.MinInt, math.MaxInt} {
		checkNoPoints(t, pointsOf([2]int{day, 0}))
		checkNoPoints(t, pointsOf([2]int{min(day, 3), 0}, [2]int{max(day, 3), 0}))
	}
	for _, tenths := range []int{-901, 901, -3600, 3600, math.MinInt, math.MaxInt} {
		for place := range 3 {
			list := pointsOf([2]int{0, 0}, [2]int{500, 7}, [2]int{999, 0})
			checkPoints(t, list)
			list[place].Tenths = tenths
			checkNoPoints(t, list)
			checkNoPoints(t, list[place:][:1])
		}
	}
}

func TestPointsAscend(t *testing.T) {
	checkNoPoints(t, pointsOf([2]int{5, 1}, [2]int{5, 1}))
	checkNoPoints(t, pointsOf([2]int{5, 1}, [2]int{5, 2}))
	checkNoPoints(t, pointsOf([2]int{6, 1}, [2]int{5, 1}))
	checkPoints(t, pointsOf([2]int{5, 1}, [2]int{6, 1}))
	full := fullPoints()
	for i := range full[1:] {
		list := slices.Clone(full)
		list[i].Day = list[i+1].Day
		checkNoPoints(t, list)
		list[i].Day, list[i+1].Day = full[i+1].Day, full[i].Day
		checkNoPoints(t, list)
		checkNoPoints(t, list[i:][:2])
	}
}

var knownDeclinations = []struct {
	a, b      [2]int
	day, want int
}{
	{[2]int{100, 0}, [2]int{200, 25}, 0, 0},
	{[2]int{100, 0}, [2]int{200, 25}, 99, 0},
	{[2]int{100, 0}, [2]int{200, 25}, 100, 0},
	{[2]int{100, 0}, [2]int{200, 25}, 101, 0},
	{[2]int{100, 0}, [2]int{200, 25}, 102, 1},
	{[2]int{100, 0}, [2]int{200, 25}, 149, 12},
	{[2]int{100, 0}, [2]int{200, 25}, 150, 13},
	{[2]int{100, 0}, [2]int{200, 25}, 199, 25},
	{[2]int{100, 0}, [2]int{200, 25}, 200, 25},
	{[2]int{100, 0}, [2]int{200, 25}, 201, 25},
	{[2]int{100, 0}, [2]int{200, 25}, 999, 25},
	// Halves of rising and of falling declinations, to the right and to the left of north.
	{[2]int{10, 7}, [2]int{12, 8}, 11, 8},
	{[2]int{10, 8}, [2]int{12, 7}, 11, 8},
	{[2]int{10, -7}, [2]int{12, -8}, 11, -8},
	{[2]int{10, -8}, [2]int{12, -7}, 11, -8},
	{[2]int{10, 0}, [2]int{12, 1}, 11, 1},
	{[2]int{10, 1}, [2]int{12, 0}, 11, 1},
	{[2]int{10, 0}, [2]int{12, -1}, 11, -1},
	{[2]int{10, -1}, [2]int{12, 0}, 11, -1},
	// Halves between declinations to both sides of north.
	{[2]int{10, -1}, [2]int{12, 2}, 11, 1},
	{[2]int{10, 2}, [2]int{12, -1}, 11, 1},
	{[2]int{10, -2}, [2]int{12, 1}, 11, -1},
	{[2]int{10, 1}, [2]int{12, -2}, 11, -1},
	{[2]int{10, -3}, [2]int{14, 3}, 11, -2},
	{[2]int{10, -3}, [2]int{14, 3}, 12, 0},
	{[2]int{10, -3}, [2]int{14, 3}, 13, 2},
	{[2]int{10, 3}, [2]int{14, -3}, 11, 2},
	{[2]int{10, 3}, [2]int{14, -3}, 13, -2},
	// Close to a half.
	{[2]int{0, 0}, [2]int{999, 1}, 499, 0},
	{[2]int{0, 0}, [2]int{999, 1}, 500, 1},
	{[2]int{0, -1}, [2]int{999, 0}, 499, -1},
	{[2]int{0, -1}, [2]int{999, 0}, 500, 0},
	{[2]int{0, 899}, [2]int{999, 900}, 499, 899},
	{[2]int{0, 899}, [2]int{999, 900}, 500, 900},
	{[2]int{0, -900}, [2]int{999, 900}, 499, -1},
	{[2]int{0, -900}, [2]int{999, 900}, 500, 1},
	{[2]int{0, -900}, [2]int{998, 900}, 499, 0},
	{[2]int{0, 900}, [2]int{999, -900}, 1, 898},
	{[2]int{0, 900}, [2]int{999, -900}, 998, -898},
}

func TestDeclinationsOfKnownDays(t *testing.T) {
	for _, c := range knownDeclinations {
		list := pointsOf(c.a, c.b)
		checkDeclination(t, list, c.day, c.want)
		checkCorrection(t, list, c.day, 1800, 1800+c.want)
		checkPoints(t, list)
	}
}

func TestDeclinationsChangeBetweenEachTwoPoints(t *testing.T) {
	list := pointsOf([2]int{100, 10}, [2]int{110, 30}, [2]int{114, 20}, [2]int{115, -40}, [2]int{120, -40})
	for day, want := range map[int]int{0: 10, 99: 10, 100: 10, 101: 12, 109: 28, 110: 30, 111: 28, 112: 25, 113: 23, 114: 20, 115: -40, 117: -40, 120: -40, 121: -40, 999: -40} {
		checkDeclination(t, list, day, want)
	}
	checkPoints(t, list)
	checkPoints(t, fullPoints())
	for _, day := range []int{0, 999} {
		checkDeclination(t, fullPoints(), day, -900)
	}
	for _, day := range []int{-1, 1000, -2, 1001, math.MinInt, math.MaxInt} {
		checkNoDay(t, list, day)
		checkNoDay(t, fullPoints(), day)
		checkNoDay(t, list[:1], day)
	}
}

// TestCorrectedAndCorrectedBackBearingsAreTheSame tries each fine bearing with declinations that
// lead across north and with the greatest ones, before, at, between and behind the points.
func TestCorrectedAndCorrectedBackBearingsAreTheSame(t *testing.T) {
	list := pointsOf([2]int{100, 900}, [2]int{150, 1}, [2]int{152, 0}, [2]int{154, -1}, [2]int{200, -37}, [2]int{205, -900})
	tenthsOf := map[int]int{0: 900, 99: 900, 100: 900, 101: 882, 125: 451, 149: 19, 150: 1, 151: 1, 152: 0, 153: -1, 154: -1, 177: -19, 200: -37, 201: -210, 203: -555, 205: -900, 206: -900, 999: -900}
	for day, tenths := range tenthsOf {
		checkDeclination(t, list, day, tenths)
		for magnetic := range 3600 {
			bearing := ruledTrue(magnetic, tenths)
			checkCorrection(t, list, day, magnetic, bearing)
			there, _ := impl.TrueBearing(list, day, magnetic)
			back, one := impl.MagneticBearing(list, day, there)
			here, _ := impl.MagneticBearing(list, day, magnetic)
			again, two := impl.TrueBearing(list, day, here)
			if !one || !two || back != magnetic || again != magnetic {
				t.Errorf("on %d, %d is corrected to %d and back to %d, %v, or to %d and back to %d, %v", day, magnetic, there, back, one, here, again, two)
			}
			stopIfFailed(t)
		}
		for _, bearing := range []int{-1, 3600, -3600, 7199, math.MinInt, math.MaxInt} {
			checkNoCorrection(t, list, day, bearing)
		}
	}
}

func TestBearingsAcrossNorth(t *testing.T) {
	right, left, level := pointsOf([2]int{5, 900}), pointsOf([2]int{5, -900}), pointsOf([2]int{5, 0})
	checkCorrection(t, right, 5, 0, 900)
	checkCorrection(t, right, 4, 2699, 3599)
	checkCorrection(t, right, 4, 2700, 0)
	checkCorrection(t, right, 6, 3599, 899)
	checkCorrection(t, left, 5, 0, 2700)
	checkCorrection(t, left, 4, 899, 3599)
	checkCorrection(t, left, 4, 900, 0)
	checkCorrection(t, left, 6, 3599, 2699)
	checkCorrection(t, level, 0, 0, 0)
	checkCorrection(t, level, 999, 3599, 3599)
	checkCorrection(t, pointsOf([2]int{0, 1}), 0, 3599, 0)
	checkCorrection(t, pointsOf([2]int{0, -1}), 0, 0, 3599)
}

func TestCorrectAllOfLists(t *testing.T) {
	list := pointsOf([2]int{100, 0}, [2]int{200, 25})
	checkCorrected(t, list, nil, nil)
	checkCorrected(t, list, []int{}, nil)
	checkCorrected(t, list, nil, []int{})
	checkCorrected(t, list, []int{150}, []int{3595}, 8)
	checkCorrected(t, list, []int{999, 150, 0, 150}, []int{0, 3595, 7, 3595}, 25, 8, 7, 8)
	days, magnetic, bearings := []int{}, []int{}, []int{}
	for i := range 21 {
		days, magnetic, bearings = append(days, 200+i), append(magnetic, 3590-i), append(bearings, (3615-i)%3600)
	}
	for count := range 21 {
		checkCorrected(t, list, days[:count], magnetic[:count], bearings[:count]...)
		checkNotCorrected(t, list, days[:count], magnetic[:count+1])
		checkNotCorrected(t, list, days[:count+1], magnetic[:count])
		checkNotCorrected(t, list, days[:count+1], nil)
		checkNotCorrected(t, list, nil, magnetic[:count+1])
	}
	checkNotCorrected(t, list, days, magnetic)
	checkNotCorrected(t, list, make([]int, 1000), make([]int, 1000))
	for count := 1; count <= 20; count++ {
		for place := range count {
			for _, bad := range []int{-1, 3600, 1 << 40, math.MinInt} {
				spoilt := slices.Clone(magnetic[:count])
				spoilt[place] = bad
				checkNotCorrected(t, list, days[:count], spoilt)
				spoilt = slices.Clone(days[:count])
				spoilt[place] = bad
				checkNotCorrected(t, list, spoilt, magnetic[:count])
			}
			spoilt := slices.Clone(days[:count])
			spoilt[place] = 1000
			checkNotCorrected(t, list, spoilt, magnetic[:count])
		}
	}
}

func TestDaysWithADeclination(t *testing.T) {
	list := pointsOf([2]int{10, 0}, [2]int{12, 2}, [2]int{22, 7}, [2]int{25, 1})
	checkDays(t, list, 0, 0, 10)
	checkDays(t, list, 1, 11, 999)
	checkDays(t, list, 2, 12, 12)
	checkDays(t, list, 3, 13, 24)
	checkDays(t, list, 4, 15, 16)
	checkDays(t, list, 5, 17, 23)
	checkDays(t, list, 6, 19, 20)
	checkDays(t, list, 7, 21, 22)
	checkNoDays(t, list, -1)
	checkNoDays(t, list, 8)
	steep := pointsOf([2]int{0, -900}, [2]int{1, 0}, [2]int{998, 0}, [2]int{999, 900})
	for tenths := -1000; tenths <= 1000; tenths++ {
		switch tenths {
		case -900:
			checkDays(t, steep, tenths, 0, 0)
		case 0:
			checkDays(t, steep, tenths, 1, 998)
		case 900:
			checkDays(t, steep, tenths, 999, 999)
		default:
			checkNoDays(t, steep, tenths)
		}
	}
	for _, tenths := range []int{-900, -899, 0, 899, 900} {
		one := pointsOf([2]int{500, tenths})
		checkDays(t, one, tenths, 0, 999)
		for _, other := range []int{tenths - 1, tenths + 1, -tenths - 1, -901, 901, math.MinInt, math.MaxInt} {
			checkNoDays(t, one, other)
		}
	}
}

func TestChangesBetweenDays(t *testing.T) {
	list := pointsOf([2]int{100, 0}, [2]int{200, 25}, [2]int{300, -10})
	checkChange(t, list, 0, 100, 0)
	checkChange(t, list, 0, 150, 13)
	checkChange(t, list, 100, 200, 25)
	checkChange(t, list, 150, 250, -5)
	checkChange(t, list, 200, 300, -35)
	checkChange(t, list, 0, 999, -10)
	checkChange(t, list, 300, 999, 0)
	for _, day := range []int{0, 150, 250, 999} {
		checkChange(t, list, day, day, 0)
	}
	// From the one bound to the other, the change is no declination.
	checkChange(t, fullPoints(), 0, 1, 1800)
	checkChange(t, fullPoints(), 998, 999, -1800)
	for _, day := range []int{-1, 1000, math.MinInt, math.MaxInt} {
		for _, other := range []int{-1, 0, 999, 1000} {
			forth, one := impl.ChangeBetween(list, day, other)
			back, two := impl.ChangeBetween(list, other, day)
			if one || two || forth != 0 || back != 0 {
				t.Errorf("between %d and %d: %d, %v, and back %d, %v", day, other, forth, one, back, two)
			}
		}
	}
}

func TestAddedPoints(t *testing.T) {
	a, b, c := impl.DecPoint{Day: 100, Tenths: 7}, impl.DecPoint{Day: 200, Tenths: -7}, impl.DecPoint{Day: 300, Tenths: 900}
	for _, empty := range [][]impl.DecPoint{nil, {}, []impl.DecPoint{a, b}[:0]} {
		checkAdded(t, empty, a, a)
		checkAdded(t, empty, impl.DecPoint{}, impl.DecPoint{})
		checkAdded(t, empty, impl.DecPoint{Day: 999, Tenths: -900}, impl.DecPoint{Day: 999, Tenths: -900})
	}
	checkAdded(t, []impl.DecPoint{b, c}, a, a, b, c)
	checkAdded(t, []impl.DecPoint{a, c}, b, a, b, c)
	checkAdded(t, []impl.DecPoint{a, b}, c, a, b, c)
	checkAdded(t, []impl.DecPoint{a}, a, a)
	for i := range 3 {
		list := []impl.DecPoint{a, b, c}
		for _, tenths := range []int{-900, 0, list[i].Tenths, 900} {
			p := impl.DecPoint{Day: list[i].Day, Tenths: tenths}
			checkAdded(t, list, p, slices.Replace(slices.Clone(list), i, i+1, p)...)
		}
		for _, next := range []int{-1, 1} {
			p := impl.DecPoint{Day: list[i].Day + next, Tenths: 3}
			checkAdded(t, list, p, slices.Insert(slices.Clone(list), i+(next+1)/2, p)...)
		}
	}
	full := fullPoints()
	for day := range 1000 {
		p := impl.DecPoint{Day: day, Tenths: 5}
		at := slices.IndexFunc(full, func(other impl.DecPoint) bool { return other.Day == day })
		if at < 0 {
			checkNotAdded(t, full, p)
		} else {
			checkAdded(t, full, p, slices.Replace(slices.Clone(full), at, at+1, p)...)
		}
		checkAdded(t, full[3:], p, ruledAdded(full[3:], p)...)
		checkAdded(t, full[:7], p, ruledAdded(full[:7], p)...)
		stopIfFailed(t)
	}
}

func TestInvalidPointsAreNotAdded(t *testing.T) {
	bad := pointsOf([2]int{-1, 0}, [2]int{1000, 0}, [2]int{300, 901}, [2]int{300, -901}, [2]int{150, 901}, [2]int{math.MinInt, 0}, [2]int{math.MaxInt, 0}, [2]int{0, math.MinInt}, [2]int{999, math.MaxInt})
	for _, p := range bad {
		for _, list := range [][]impl.DecPoint{nil, pointsOf([2]int{300, 5}), pointsOf([2]int{0, 1}, [2]int{150, 2}, [2]int{300, 3}), fullPoints()} {
			checkNotAdded(t, list, p)
		}
		// Nor does a valid one make an invalid list valid.
		for _, other := range bad {
			other.Day, other.Tenths = p.Day, 0
			checkNotAdded(t, []impl.DecPoint{p}, other)
			checkNotAdded(t, []impl.DecPoint{p}, impl.DecPoint{Day: 300, Tenths: 1})
		}
	}
	double := pointsOf([2]int{5, 1}, [2]int{5, 2}, [2]int{9, 3})
	for day := range 12 {
		checkNotAdded(t, double, impl.DecPoint{Day: day})
		checkNotAdded(t, pointsOf([2]int{9, 1}, [2]int{5, 2}), impl.DecPoint{Day: day})
		checkNotAdded(t, append(fullPoints()[:7], pointsOf([2]int{998, 900}, [2]int{999, 1})...), impl.DecPoint{Day: day})
	}
}

func TestNeedlessPointsOfKnownLists(t *testing.T) {
	checkNeedless(t, pointsOf([2]int{0, 0}))
	checkNeedless(t, pointsOf([2]int{999, 900}))
	checkNeedless(t, pointsOf([2]int{10, 5}, [2]int{20, 5}), 0, 1)
	checkNeedless(t, pointsOf([2]int{10, 5}, [2]int{20, 6}))
	checkNeedless(t, pointsOf([2]int{0, 5}, [2]int{10, 5}, [2]int{999, 5}), 0, 1, 2)
	checkNeedless(t, pointsOf([2]int{0, 0}, [2]int{100, 10}, [2]int{200, 20}), 1)
	checkNeedless(t, pointsOf([2]int{0, 0}, [2]int{100, 11}, [2]int{200, 20}))
	checkNeedless(t, pointsOf([2]int{5, 0}, [2]int{10, 5}, [2]int{20, 15}, [2]int{35, 30}, [2]int{36, 30}), 1, 2, 4)
	checkNeedless(t, pointsOf([2]int{0, 0}, [2]int{1, 0}, [2]int{3, 1}), 0, 1)
	checkNeedless(t, pointsOf([2]int{0, 0}, [2]int{2, 1}, [2]int{3, 1}), 2)
	// These ones lie beside the straight change, by less than the rounding tells.
	checkNeedless(t, pointsOf([2]int{0, 0}, [2]int{5, 3}, [2]int{10, 5}), 1)
	checkNeedless(t, pointsOf([2]int{0, 3}, [2]int{2, 2}, [2]int{5, 1}), 1)
}

func TestPointsThatMatterForOneDay(t *testing.T) {
	for _, list := range [][]impl.DecPoint{
		pointsOf([2]int{0, 0}, [2]int{1, 1}, [2]int{2, 0}),
		pointsOf([2]int{500, -3}, [2]int{501, -4}, [2]int{502, -3}),
		pointsOf([2]int{0, 0}, [2]int{4, 1}, [2]int{9, 2}),
		pointsOf([2]int{990, 0}, [2]int{994, 1}, [2]int{999, 2}),
		// The first day, and the last one.
		pointsOf([2]int{0, 8}, [2]int{1, 7}),
		pointsOf([2]int{998, 7}, [2]int{999, 8}),
	} {
		matters := slices.IndexFunc(list, func(p impl.DecPoint) bool {
			return changedDays(list, slices.Index(list, p)) == 1
		})
		if matters < 0 {
			t.Errorf("no point of %v matters for one day alone", list)
			continue
		}
		needless, ok := impl.NeedlessPoints(list)
		if !ok || slices.Contains(needless, matters) {
			t.Errorf("NeedlessPoints(%v) = %v, %v", list, needless, ok)
		}
		checkPoints(t, list)
	}
}

func TestPointsThatAreNeedlessAloneButNotTogether(t *testing.T) {
	for _, list := range [][]impl.DecPoint{
		pointsOf([2]int{0, 0}, [2]int{1, 1}, [2]int{2, 2}, [2]int{5, 3}),
		pointsOf([2]int{990, 0}, [2]int{991, -1}, [2]int{992, -2}, [2]int{997, -4}),
	} {
		if changedDays(list, 1, 2) == 0 {
			t.Errorf("%v is the same without two", list)
		}
		checkNeedless(t, list, 1, 2)
		checkPoints(t, list)
	}
}

// shortPointLists yields all lists of up to 3 points with small declinations among 5 days in a
// row, at either end of the days.
func shortPointLists(yield func([]impl.DecPoint) bool) {
	for _, first := range []int{0, 995} {
		for number := range 6 * 6 * 6 * 6 * 6 {
			list := []impl.DecPoint{}
			for day := range 5 {
				// 0 stands for no point on the day.
				if number%6 != 0 {
					list = append(list, impl.DecPoint{Day: first + day, Tenths: number%6 - 3})
				}
				number /= 6
			}
			if len(list) > 0 && len(list) <= 3 && !yield(list) {
				return
			}
		}
	}
}

func TestAllShortPointLists(t *testing.T) {
	counts := map[int]int{}
	for list := range shortPointLists {
		counts[len(list)]++
		checkNeedless(t, list, ruledNeedless(list)...)
		stopIfFailed(t)
		for day := max(0, list[0].Day-6); day <= min(999, list[0].Day+6); day++ {
			checkDeclination(t, list, day, ruledDeclination(list, day))
		}
	}
	if counts[1] != 50 || counts[2] != 500 || counts[3] != 2500 {
		t.Error("not all lists were tried", counts)
	}
}

// points makes count of them, close to each other or far apart, with similar or very different
// declinations. Some of them are moved to where they hardly matter.
func (n *numbers) points(count int) []impl.DecPoint {
	width := []int{8, 20, 100, 1000}[n.next(4)]
	first := n.within(0, 1000-width)
	days := map[int]bool{}
	for len(days) < count {
		days[first+n.next(width)] = true
	}
	spread := []int{1, 4, 50, 900}[n.next(4)]
	middle := n.within(spread-900, 900-spread)
	if n.next(2) == 0 {
		middle = 0
	}
	list := []impl.DecPoint{}
	for day := range 1000 {
		if days[day] {
			list = append(list, impl.DecPoint{Day: day, Tenths: middle + n.within(-spread, spread)})
		}
	}
	for range n.next(3) {
		if i := n.next(count); count > 1 {
			list[i].Tenths = ruledDeclination(withoutPoints(list, i), list[i].Day)
		}
	}
	return list
}

func TestManyPoints(t *testing.T) {
	n, counts := numbers{71}, map[string]int{}
	for i := range 1200 {
		list := n.points(1 + i%impl.MaxPoints)
		checkPoints(t, list)
		if i%4 == 0 {
			checkBesidePoints(t, list, &n)
		}
		for kind, isSo := range kindsOfPoints(list) {
			if isSo {
				counts[kind]++
			}
		}
	}
	for _, kind := range []string{"half above", "half below", "rises", "falls", "level", "across", "needless", "several needless", "needed", "one day", "not together", "on one day", "on days in a row", "on days apart"} {
		if counts[kind] < 50 {
			t.Errorf("only %d lists of the kind %q", counts[kind], kind)
		}
	}
}

func kindsOfPoints(list []impl.DecPoint) map[string]bool {
	needless, all := ruledNeedless(list), ruledDeclinations(list)
	kinds := map[string]bool{"needless": len(needless) > 0, "several needless": len(needless) > 1, "needed": len(needless) < len(list)}
	for i := range list {
		kinds["one day"] = kinds["one day"] || changedDays(list, i) == 1
		for _, k := range needless {
			kinds["not together"] = kinds["not together"] || i != k && slices.Contains(needless, i) && changedDays(list, i, k) > 0
		}
	}
	for i, b := range list[1:] {
		a := list[i]
		kinds["rises"] = kinds["rises"] || a.Tenths < b.Tenths
		kinds["falls"] = kinds["falls"] || a.Tenths > b.Tenths
		kinds["level"] = kinds["level"] || a.Tenths == b.Tenths
		kinds["across"] = kinds["across"] || a.Tenths*b.Tenths < 0
	}
	for day, tenths := range all {
		exact := exactDeclination(list, day)
		isHalf := exact-math.Floor(exact) == 0.5
		kinds["half above"] = kinds["half above"] || isHalf && exact > 0
		kinds["half below"] = kinds["half below"] || isHalf && exact < 0
		last := lastIndex(all, tenths)
		between := slices.IndexFunc(all[day:last+1], func(other int) bool { return other != tenths })
		isFirst := slices.Index(all, tenths) == day
		kinds["on one day"] = kinds["on one day"] || isFirst && day == last
		kinds["on days in a row"] = kinds["on days in a row"] || isFirst && day > 0 && day < last && last < 999 && between < 0
		kinds["on days apart"] = kinds["on days apart"] || isFirst && between >= 0
	}
	return kinds
}

// oddPoints has lists in which one of the points may be anything.
func oddPoints(yield func([]impl.DecPoint) bool) {
	for _, day := range pointNumbers {
		for _, tenths := range pointNumbers {
			for place := range 3 {
				list := pointsOf([2]int{1, 7}, [2]int{500, -7}, [2]int{998, 900})
				list[place] = impl.DecPoint{Day: day, Tenths: tenths}
				if !yield(list) || !yield(list[place:][:1]) {
					return
				}
			}
		}
	}
}

var pointNumbers = []int{math.MinInt, math.MinInt + 1, -1 << 32, -3600, -901, -900, -1, 0, 1, 7, 500, 900, 901, 998, 999, 1000, 3599, 3600, 1 << 32, math.MaxInt - 1, math.MaxInt}

func TestDeclinationFunctionsReturnForAllArguments(t *testing.T) {
	valid := pointsOf([2]int{1, 7}, [2]int{500, -7}, [2]int{998, 900})
	for list := range oddPoints {
		if !ruledPoints(list) {
			checkNoPoints(t, list)
			stopIfFailed(t)
			continue
		}
		checkPoints(t, list)
	}
	for _, a := range pointNumbers {
		for _, b := range pointNumbers {
			isDay, isFine := a >= 0 && a <= 999, b >= 0 && b <= 3599
			if isDay && isFine {
				checkCorrection(t, valid, a, b, ruledTrue(b, ruledDeclination(valid, a)))
			} else {
				checkNoCorrection(t, valid, a, b)
			}
			change, ok := impl.ChangeBetween(valid, a, b)
			checkOutcome(t, "ChangeBetween", []int{a, b}, change, ok, isDay && b >= 0 && b <= 999)
			p := impl.DecPoint{Day: a, Tenths: b}
			for _, list := range [][]impl.DecPoint{nil, valid, fullPoints()} {
				if want := ruledAdded(list, p); want != nil {
					checkAdded(t, list, p, want...)
				} else {
					checkNotAdded(t, list, p)
				}
			}
		}
		if a < 0 || a > 999 {
			checkNoDay(t, valid, a)
		}
		if !slices.Contains(ruledDeclinations(valid), a) {
			checkNoDays(t, valid, a)
		}
	}
}

func TestDeclinationFunctionsLeaveTheirLists(t *testing.T) {
	// Behind the length of a list there are points and numbers that are neither read nor written.
	list := append(fullPoints(), pointsOf([2]int{5, 5}, [2]int{-7, 7777})...)
	before := slices.Clone(list)
	days, magnetic := []int{0, 500, 999, 1000, -7}, []int{3599, 0, 1, -1, 3600}
	for count := 1; count <= impl.MaxPoints; count++ {
		checkPoints(t, list[:count])
		n := numbers{uint32(count)}
		checkBesidePoints(t, list[:count], &n)
		for some := range 4 {
			all, ok := impl.CorrectAll(list[:count], days[:some], magnetic[:some])
			if !ok || len(all) != some {
				t.Errorf("CorrectAll(%v, %v, %v) = %v, %v", list[:count], days[:some], magnetic[:some], all, ok)
			}
		}
	}
	for day := range 1000 {
		for count := range impl.MaxPoints {
			p := impl.DecPoint{Day: day, Tenths: 77}
			checkAdded(t, list[:count], p, ruledAdded(list[:count], p)...)
			stopIfFailed(t)
		}
	}
	checkNoPoints(t, list)
	checkNoPoints(t, list[:9])
	if !slices.Equal(list, before) || !slices.Equal(days, []int{0, 500, 999, 1000, -7}) || !slices.Equal(magnetic, []int{3599, 0, 1, -1, 3600}) {
		t.Error("a list was modified", list, days, magnetic)
	}
}

// TestResultsOfDeclinationFunctionsAreTheirOwn writes to all results and behind their lengths,
// and asks again.
func TestResultsOfDeclinationFunctionsAreTheirOwn(t *testing.T) {
	level := pointsOf([2]int{10, 5}, [2]int{20, 5}, [2]int{30, 5})
	for _, points := range [][]impl.DecPoint{level, level[:1], fullPoints()[:5]} {
		list := append(slices.Clone(points), make([]impl.DecPoint, 5)...)[:len(points)]
		days, magnetic := append(make([]int, 0, 9), 0, 20, 999), append(make([]int, 0, 9), 3599, 0, 1)
		bearings := []int{}
		for i, day := range days {
			bearings = append(bearings, ruledTrue(magnetic[i], ruledDeclination(points, day)))
		}
		for range 2 {
			for _, p := range append(slices.Clone(points), impl.DecPoint{}, impl.DecPoint{Day: 15, Tenths: 1}, impl.DecPoint{Day: 999}) {
				added, _ := impl.AddPoint(list, p)
				again, ok := impl.AddPoint(list, p)
				clear(added[:cap(added)])
				if !ok || !slices.Equal(again, ruledAdded(points, p)) {
					t.Errorf("AddPoint(%v, %v) = %v, %v", list, p, again, ok)
				}
				clear(again[:cap(again)])
			}
			one, _ := impl.AddPoint(list[:0], impl.DecPoint{Day: 7, Tenths: 7})
			corrected, _ := impl.CorrectAll(list, days, magnetic)
			needless, _ := impl.NeedlessPoints(list)
			clear(one[:cap(one)])
			for _, result := range [][]int{corrected, needless} {
				for i := range result[:cap(result)] {
					result[:cap(result)][i] = 77
				}
			}
			checkCorrected(t, list, days, magnetic, bearings...)
			checkNeedless(t, list, ruledNeedless(points)...)
			if !slices.Equal(list, points) || slices.Max(days[:cap(days)]) != 999 || slices.Max(magnetic[:cap(magnetic)]) != 3599 {
				t.Error("a result shares memory", list, days, magnetic)
			}
		}
	}
}
