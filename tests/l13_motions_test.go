package tests

import (
	"math"
	"slices"
	"testing"

	"loop.example/g01017/impl"
)

func motionAt(station int, x int, y int, sign int) impl.Motion {
	return impl.Motion{Station: station, X: x, Y: y, Sign: sign}
}

// motionsOf returns Motions with the Stations 3, 6, 9 .. and an X, a Y and a Sign each.
func motionsOf(rows ...[3]int) []impl.Motion {
	list := []impl.Motion{}
	for i, r := range rows {
		list = append(list, motionAt(3*i+3, r[0], r[1], r[2]))
	}
	return list
}

// motionsWithStations returns Motions at one place with the same Sign and some Stations, in order or not.
func motionsWithStations(stations ...int) []impl.Motion {
	list := []impl.Motion{}
	for _, station := range stations {
		list = append(list, motionAt(station, 30, 70, 1))
	}
	return list
}

// ordinaryMotions returns Motions that plane 0 explains with the polarity 1, the last one since it is on a line.
func ordinaryMotions() []impl.Motion {
	return motionsOf([3]int{50, 30, 1}, [3]int{-20, 60, -1}, [3]int{-70, -10, 1}, [3]int{40, -90, -1}, [3]int{0, 80, -1})
}

// scatteredMotions returns n Motions at most far kilometers from the epicenter along X and Y, with any Signs.
func scatteredMotions(seed int, n int, far int) []impl.Motion {
	raw := numbers(seed, 4*n, 100000)
	list := []impl.Motion{}
	for i := range n {
		r := raw[4*i : 4*i+4]
		m := motionAt(8*i+1+r[3]%8, r[0]%(2*far+1)-far, r[1]%(2*far+1)-far, 1-r[2]/50000*2)
		if m.X == 0 && m.Y == 0 {
			m.X = far
		}
		list = append(list, m)
	}
	return list
}

// seenBy returns Motions with the Signs that a plane explains with a polarity; those on its lines keep theirs.
func seenBy(list []impl.Motion, plane int, polarity int) []impl.Motion {
	seen := slices.Clone(list)
	for i, m := range seen {
		if q := quadrantBy(m.X, m.Y, plane); q != 0 {
			seen[i].Sign = q * polarity
		}
	}
	return seen
}

// onLines returns n Motions on both lines of a plane, to all sides.
func onLines(plane int, n int) []impl.Motion {
	list := []impl.Motion{}
	for i := range n {
		t := 1 + 5*i
		at := [4][2]int{{16 - plane, plane}, {-plane, 16 - plane}, {plane - 16, -plane}, {plane, plane - 16}}[i%4]
		list = append(list, motionAt(7*i+2, t*at[0], t*at[1], 1-i/2%2*2))
	}
	return list
}

// besideFirst returns two Motions one kilometer to the left and to the right of the first line of a plane, far from the
// epicenter, that only this plane explains both, and only with a polarity.
func besideFirst(plane int, polarity int) []impl.Motion {
	return motionsOf([3]int{60 * (16 - plane), 60*plane + 1, polarity}, [3]int{60 * (16 - plane), 60*plane - 1, -polarity})
}

// atRightAngle returns two Motions with the same Sign that are in an even and in an odd quadrant of each plane.
func atRightAngle() []impl.Motion {
	return motionsOf([3]int{100, 1, 1}, [3]int{-1, 100, 1})
}

func goodMotions() []impl.Motion {
	good := []impl.Motion{motionAt(12, 30, 70, 1), motionAt(12, 30, 70, -1), motionAt(1, 30, 70, 1), motionAt(99, 30, 70, 1), motionAt(1, -999, -999, -1), motionAt(99, 999, 999, 1)}
	for _, n := range []int{-999, -998, -1, 1, 998, 999} {
		good = append(good, motionAt(12, n, 70, 1), motionAt(12, 30, n, -1), motionAt(12, n, 0, 1), motionAt(12, 0, n, -1), motionAt(12, n, -n, 1))
	}
	return append(good, motionAt(12, 0, 70, 1), motionAt(12, 30, 0, -1))
}

// badMotions returns Motions that are not valid, each for one reason.
func badMotions() []impl.Motion {
	bad := []impl.Motion{{}, motionAt(12, 0, 0, 1), motionAt(12, 0, 0, -1), motionAt(1, 0, 0, 1)}
	for _, n := range append(beyond(1, 99), -1, -12) {
		bad = append(bad, motionAt(n, 30, 70, 1))
	}
	for _, n := range beyond(-999, 999) {
		bad = append(bad, motionAt(12, n, 70, 1), motionAt(12, 30, n, 1), motionAt(12, n, 0, -1), motionAt(12, 0, n, -1), motionAt(12, n, n, 1))
	}
	for _, n := range badSigns() {
		bad = append(bad, motionAt(12, 30, 70, n))
	}
	return bad
}

// badSigns returns numbers that are no Sign and no polarity.
func badSigns() []int {
	return append(beyond(-1, 1), 0, 3, -3, 1<<32)
}

func goodMotionLists() [][]impl.Motion {
	good := [][]impl.Motion{nil, {}, ordinaryMotions(), atRightAngle(), motionsWithStations(countUp(1, 12)...)}
	for _, m := range goodMotions() {
		good = append(good, []impl.Motion{m})
	}
	for plane := range 16 {
		good = append(good, onLines(plane, 1+plane%12), onLines(plane, 12), besideFirst(plane, 1), besideFirst(plane, -1))
		for _, polarity := range []int{1, -1} {
			list := scatteredMotions(plane+7*polarity, 12-plane%5, 999)
			good = append(good, seenBy(list, plane, polarity))
			// One of these is not explained any more.
			list = seenBy(scatteredMotions(plane+9*polarity, 11, 60), plane, polarity)
			list[plane%11].Sign *= -1
			good = append(good, list)
		}
	}
	for seed := range 50 {
		good = append(good, scatteredMotions(seed+100, 1+seed%impl.MaxMotions, 999), scatteredMotions(seed+200, 1+seed%impl.MaxMotions, 4), scatteredMotions(seed+300, impl.MaxMotions-seed%3, 20))
	}
	return good
}

// badMotionLists returns lists that are no Motions, each for one reason.
func badMotionLists() [][]impl.Motion {
	bad := [][]impl.Motion{motionsWithStations(countUp(1, 13)...), motionsWithStations(make([]int, 13)...), make([]impl.Motion, 1), make([]impl.Motion, 3000), onLines(5, 13)}
	for _, m := range badMotions() {
		bad = append(bad, []impl.Motion{m}, []impl.Motion{motionAt(1, 30, 70, 1), m}, []impl.Motion{m, motionAt(99, 30, 70, 1)}, []impl.Motion{motionAt(1, 5, 5, 1), m, motionAt(99, 5, 5, 1)})
	}
	for _, stations := range [][]int{{5, 5}, {5, 4}, {99, 1}, {1, 2, 2}, {1, 1, 2}, {1, 3, 2}, {3, 1, 2}, {1, 2, 3, 4, 5, 6, 7, 8, 9, 10, 11, 11}, {1, 2, 3, 4, 5, 6, 7, 8, 9, 10, 12, 11}} {
		bad = append(bad, motionsWithStations(stations...))
	}
	return bad
}

// shortest returns the first whole point on the way from the epicenter to a point.
func shortest(x int, y int) [2]int {
	for n := max(x, -x, y, -y); n > 1; n-- {
		if x%n == 0 && y%n == 0 {
			return [2]int{x / n, y / n}
		}
	}
	return [2]int{x, y}
}

// quadrantBy compares points on the lines, and counts right angles from the first direction on.
func quadrantBy(x int, y int, plane int) int {
	way := shortest(x, y)
	for _, line := range [][2]int{{16 - plane, plane}, {-plane, 16 - plane}} {
		on := shortest(line[0], line[1])
		if way == on || way == [2]int{-on[0], -on[1]} {
			return 0
		}
	}
	angle := math.Atan2(float64(y), float64(x)) - math.Atan2(float64(plane), float64(16-plane))
	if angle < 0 {
		angle += 2 * math.Pi
	}
	return 1 - int(angle/(math.Pi/2))%2*2
}

// missedBy returns the Stations of the Motions that a plane with a polarity does not explain.
func missedBy(list []impl.Motion, plane int, polarity int) []int {
	missed := []int{}
	for _, m := range list {
		if q := quadrantBy(m.X, m.Y, plane); q*polarity*m.Sign == -1 {
			missed = append(missed, m.Station)
		}
	}
	return missed
}

func wantQuadrant(t *testing.T, x int, y int, plane int, want int) {
	t.Helper()
	for _, sign := range []int{1, -1} {
		if q, ok := impl.QuadrantOf(motionAt(7, x, y, sign), plane); !ok || q != want {
			t.Errorf("QuadrantOf(%d, %d, %d) = %d, %v; want %d, true", x, y, plane, q, ok, want)
		}
	}
}

func wantNoQuadrant(t *testing.T, m impl.Motion, plane int) {
	t.Helper()
	if q, ok := impl.QuadrantOf(m, plane); ok || q != 0 {
		t.Errorf("QuadrantOf(%v, %d) = %d, %v; want 0, false", m, plane, q, ok)
	}
}

// wantMissed checks NotExplained and Explained.
func wantMissed(t *testing.T, list []impl.Motion, plane int, polarity int, missed ...int) {
	t.Helper()
	got, ok := impl.NotExplained(list, plane, polarity)
	wantNumbers(t, "NotExplained", got, ok, missed)
	if n, ok := impl.Explained(list, plane, polarity); !ok || n != len(list)-len(missed) {
		t.Errorf("Explained(%v, %d, %d) = %d, %v; want %d, true", list, plane, polarity, n, ok, len(list)-len(missed))
	}
}

// wantNotJudgedBy checks that NotExplained and Explained fail.
func wantNotJudgedBy(t *testing.T, list []impl.Motion, plane int, polarity int) {
	t.Helper()
	got, ok := impl.NotExplained(list, plane, polarity)
	wantNoNumbers(t, "NotExplained", got, ok)
	if n, ok := impl.Explained(list, plane, polarity); ok || n != 0 {
		t.Errorf("Explained(%.200v, %d, %d) = %d, %v; want 0, false", list, plane, polarity, n, ok)
	}
}

func wantBestPlane(t *testing.T, list []impl.Motion, plane int, polarity int) {
	t.Helper()
	if k, q, ok := impl.BestPlane(list); !ok || k != plane || q != polarity {
		t.Errorf("BestPlane(%v) = %d, %d, %v; want %d, %d, true", list, k, q, ok, plane, polarity)
	}
}

func wantNoBestPlane(t *testing.T, list []impl.Motion) {
	t.Helper()
	if k, q, ok := impl.BestPlane(list); ok || k != 0 || q != 0 {
		t.Errorf("BestPlane(%.200v) = %d, %d, %v; want 0, 0, false", list, k, q, ok)
	}
}

func wantPlanes(t *testing.T, list []impl.Motion, misses int, want ...int) {
	t.Helper()
	got, ok := impl.PlanesWith(list, misses)
	wantNumbers(t, "PlanesWith", got, ok, want)
}

func wantNoPlanes(t *testing.T, list []impl.Motion, misses int) {
	t.Helper()
	got, ok := impl.PlanesWith(list, misses)
	wantNoNumbers(t, "PlanesWith", got, ok)
}

func wantFewest(t *testing.T, list []impl.Motion, want int) {
	t.Helper()
	if n, ok := impl.FewestMisses(list); !ok || n != want {
		t.Errorf("FewestMisses(%v) = %d, %v; want %d, true", list, n, ok, want)
	}
}

func wantMotions(t *testing.T, name string, got []impl.Motion, ok bool, want []impl.Motion) {
	t.Helper()
	if !ok || !slices.Equal(got, want) {
		t.Errorf("%s = %v, %v; want %v, true", name, got, ok, want)
	}
}

// wantNoMotions checks that all functions with a list fail.
func wantNoMotions(t *testing.T, list []impl.Motion) {
	t.Helper()
	for plane := range 16 {
		wantNotJudgedBy(t, list, plane, 1)
		wantNotJudgedBy(t, list, plane, -1)
	}
	for misses := range 13 {
		wantNoPlanes(t, list, misses)
	}
	wantNoBestPlane(t, list)
	if n, ok := impl.FewestMisses(list); ok || n != 0 {
		t.Errorf("FewestMisses(%.200v) = %d, %v; want 0, false", list, n, ok)
	}
	if got, ok := impl.TurnMotions(list); ok || len(got) != 0 {
		t.Errorf("TurnMotions(%.200v) = %v, %v; want none, false", list, got, ok)
	}
	if got, ok := impl.FlipMotions(list); ok || len(got) != 0 {
		t.Errorf("FlipMotions(%.200v) = %v, %v; want none, false", list, got, ok)
	}
}

// turned returns the TurnMotions of Motions.
func turned(t *testing.T, list []impl.Motion) []impl.Motion {
	t.Helper()
	got, ok := impl.TurnMotions(list)
	if !ok || !impl.AreMotions(got) || len(got) != len(list) {
		t.Errorf("TurnMotions(%v) = %v, %v", list, got, ok)
	}
	return got
}

// flipped returns the FlipMotions of Motions.
func flipped(t *testing.T, list []impl.Motion) []impl.Motion {
	t.Helper()
	got, ok := impl.FlipMotions(list)
	if !ok || !impl.AreMotions(got) || len(got) != len(list) {
		t.Errorf("FlipMotions(%v) = %v, %v", list, got, ok)
	}
	return got
}

func allPlanes() []int {
	return countUp(0, 15)
}

// countUp returns the numbers from..to.
func countUp(from int, to int) []int {
	list := []int{}
	for n := from; n <= to; n++ {
		list = append(list, n)
	}
	return list
}

func TestMotionLimits(t *testing.T) {
	if impl.MaxMotions != 12 {
		t.Error("limit", impl.MaxMotions)
	}
}

func TestAreMotions(t *testing.T) {
	for _, m := range goodMotions() {
		if !impl.AreMotions([]impl.Motion{m}) {
			t.Error("a Motion", m)
		}
	}
	for _, m := range badMotions() {
		if impl.AreMotions([]impl.Motion{m}) {
			t.Error("no Motion", m)
		}
	}
	for _, list := range goodMotionLists() {
		if !impl.AreMotions(list) {
			t.Error("Motions", list)
		}
	}
	for _, list := range badMotionLists() {
		if impl.AreMotions(list) {
			t.Errorf("no Motions: %.200v", list)
		}
	}
	for n := range 30 {
		if impl.AreMotions(motionsWithStations(countUp(1, n)...)) != (n <= 12) {
			t.Error(n, "Motions", n > 12)
		}
	}
}

func TestAreMotionsForEachStation(t *testing.T) {
	for a := -2; a <= 102; a++ {
		for b := -2; b <= 102; b++ {
			if is := impl.AreMotions(motionsWithStations(a, b)); is != (1 <= a && a < b && b <= 99) {
				t.Error("Stations", a, b, is)
			}
		}
	}
}

func TestMotionFunctionsFailForInvalidMotions(t *testing.T) {
	for _, m := range badMotions() {
		for plane := range 16 {
			wantNoQuadrant(t, m, plane)
		}
	}
	for _, list := range badMotionLists() {
		wantNoMotions(t, list)
	}
}

func TestMotionFunctionsFailForInvalidNumbers(t *testing.T) {
	for _, plane := range append(beyond(0, 15), 17, -8, 1<<32) {
		for _, m := range goodMotions() {
			wantNoQuadrant(t, m, plane)
		}
		for _, list := range goodMotionLists()[:60] {
			wantNotJudgedBy(t, list, plane, 1)
			wantNotJudgedBy(t, list, plane, -1)
		}
	}
	for _, list := range goodMotionLists()[:60] {
		for _, polarity := range badSigns() {
			wantNotJudgedBy(t, list, 0, polarity)
			wantNotJudgedBy(t, list, 15, polarity)
		}
		for _, misses := range beyond(0, impl.MaxMotions) {
			wantNoPlanes(t, list, misses)
		}
	}
}

func TestQuadrantOf(t *testing.T) {
	for _, c := range []struct{ x, y, plane, want int }{
		{5, 3, 0, 1}, {-5, 3, 0, -1}, {-5, -3, 0, 1}, {5, -3, 0, -1}, {5, 0, 0, 0}, {0, 5, 0, 0}, {-5, 0, 0, 0}, {0, -5, 0, 0},
		{3, 5, 8, 1}, {5, 3, 8, -1}, {5, -3, 8, -1}, {3, -5, 8, 1}, {-3, -5, 8, 1}, {-5, -3, 8, -1}, {-5, 3, 8, -1}, {-3, 5, 8, 1},
		{5, 5, 8, 0}, {-5, 5, 8, 0}, {-5, -5, 8, 0}, {5, -5, 8, 0}, {0, 7, 8, 1}, {7, 0, 8, -1}, {0, -7, 8, 1}, {-7, 0, 8, -1},
		{15, 1, 1, 0}, {-1, 15, 1, 0}, {-15, -1, 1, 0}, {1, -15, 1, 0}, {14, 1, 1, 1}, {16, 1, 1, -1}, {-1, 14, 1, -1}, {-1, 16, 1, 1}, {1, 15, 1, 1}, {15, -1, 1, -1},
		{1, 15, 15, 0}, {-15, 1, 15, 0}, {-1, -15, 15, 0}, {15, -1, 15, 0}, {1, 14, 15, -1}, {1, 16, 15, 1}, {15, 1, 15, -1}, {-1, 15, 15, 1},
		{3, 1, 4, 0}, {-1, 3, 4, 0}, {4, 1, 4, -1}, {2, 1, 4, 1}, {0, 1, 4, 1}, {1, 0, 4, -1}, {0, -1, 4, 1}, {-1, 0, 4, -1},
	} {
		wantQuadrant(t, c.x, c.y, c.plane, c.want)
	}
	// A Station and a Sign make no difference.
	for _, m := range []impl.Motion{motionAt(1, 5, 3, 1), motionAt(99, 5, 3, 1), motionAt(50, 5, 3, -1)} {
		if q, ok := impl.QuadrantOf(m, 0); !ok || q != 1 {
			t.Errorf("QuadrantOf(%v, 0) = %d, %v", m, q, ok)
		}
	}
}

func TestQuadrantOfPointsOnTheLines(t *testing.T) {
	for plane := range 16 {
		x, y := 16-plane, plane
		for n := -62; n <= 62; n++ {
			if n != 0 {
				wantQuadrant(t, n*x, n*y, plane, 0)
				wantQuadrant(t, -n*y, n*x, plane, 0)
			}
		}
		on := shortest(x, y)
		for n := 1; n*max(on[0], on[1]) <= 999; n++ {
			wantQuadrant(t, n*on[0], n*on[1], plane, 0)
			wantQuadrant(t, n*on[1], -n*on[0], plane, 0)
		}
	}
}

func TestQuadrantOfPointsBesideTheLines(t *testing.T) {
	for plane := range 16 {
		// To the right of the first line is the odd quadrant, but no step along X leaves a line along X.
		right := -min(plane, 1)
		for n := 1; n <= 62; n++ {
			x, y := n*(16-plane), n*plane
			wantQuadrant(t, x, y+1, plane, 1)
			wantQuadrant(t, x, y-1, plane, -1)
			wantQuadrant(t, x-1, y, plane, -right)
			wantQuadrant(t, x+1, y, plane, right)
			wantQuadrant(t, -x, -y-1, plane, 1)
			wantQuadrant(t, -x, -y+1, plane, -1)
			wantQuadrant(t, -y-1, x, plane, -1)
			wantQuadrant(t, -y+1, x, plane, 1)
			wantQuadrant(t, -y, x+1, plane, -right)
			wantQuadrant(t, -y, x-1, plane, right)
			wantQuadrant(t, y-1, -x, plane, 1)
			wantQuadrant(t, y+1, -x, plane, -1)
		}
	}
}

func TestQuadrantOfManyPoints(t *testing.T) {
	counts := map[int]int{}
	check := func(x int, y int) {
		if x == 0 && y == 0 {
			return
		}
		for plane := range 16 {
			want := quadrantBy(x, y, plane)
			wantQuadrant(t, x, y, plane, want)
			counts[want]++
		}
	}
	for x := -24; x <= 24; x++ {
		for y := -24; y <= 24; y++ {
			check(x, y)
		}
	}
	for _, x := range []int{-999, -998, -500, -1, 0, 1, 500, 998, 999} {
		for y := -999; y <= 999; y += 37 {
			check(x, y)
			check(y, -x)
		}
	}
	if min(counts[1], counts[-1], 20*counts[0]) < 10000 {
		t.Error("too few points of a kind", counts)
	}
}

func TestQuadrantOfTheNextRightAngle(t *testing.T) {
	for _, list := range goodMotionLists() {
		next := turned(t, list)
		for i, m := range list {
			for plane := range 16 {
				q, ok := impl.QuadrantOf(m, plane)
				if !ok {
					t.Fatalf("QuadrantOf(%v, %d) fails", m, plane)
				}
				wantQuadrant(t, -m.X, -m.Y, plane, q)
				wantQuadrant(t, next[i].X, next[i].Y, plane, -q)
			}
		}
	}
}

func TestExplained(t *testing.T) {
	list := ordinaryMotions()
	wantMissed(t, list, 0, 1)
	wantMissed(t, list, 0, -1, 3, 6, 9, 12)
	// In plane 8, the quadrants are those to the right, up, to the left and down.
	wantMissed(t, list, 8, 1, 3, 6, 9, 12, 15)
	wantMissed(t, list, 8, -1)
	wantMissed(t, list[2:], 0, -1, 9, 12)
	wantMissed(t, list[:2], 8, 1, 3, 6)
	list = motionsOf([3]int{50, 30, 1}, [3]int{-20, 60, 1}, [3]int{-70, -10, -1}, [3]int{40, -90, -1}, [3]int{9, 0, 1}, [3]int{0, -9, -1})
	wantMissed(t, list, 0, 1, 6, 9)
	wantMissed(t, list, 0, -1, 3, 12)
	wantMissed(t, list, 8, 1, 3, 12, 15, 18)
	wantMissed(t, list, 8, -1, 6, 9)
}

func TestExplainedWithoutMotions(t *testing.T) {
	for plane := range 16 {
		for _, polarity := range []int{1, -1} {
			wantMissed(t, nil, plane, polarity)
			wantMissed(t, []impl.Motion{}, plane, polarity)
		}
	}
}

func TestExplainedOneMotion(t *testing.T) {
	for _, c := range []struct{ x, y, quadrant int }{{5, 3, 1}, {-5, 3, -1}, {-5, -3, 1}, {5, -3, -1}} {
		for _, sign := range []int{1, -1} {
			list := []impl.Motion{motionAt(40, c.x, c.y, sign)}
			wantMissed(t, list, 0, sign*c.quadrant)
			wantMissed(t, list, 0, -sign*c.quadrant, 40)
		}
	}
	for _, at := range [][2]int{{5, 0}, {0, 5}, {-5, 0}, {0, -5}} {
		for _, sign := range []int{1, -1} {
			wantMissed(t, []impl.Motion{motionAt(40, at[0], at[1], sign)}, 0, 1)
			wantMissed(t, []impl.Motion{motionAt(40, at[0], at[1], sign)}, 0, -1)
		}
	}
}

func TestExplainedOnTheLines(t *testing.T) {
	for plane := range 16 {
		for n := 1; n <= 12; n++ {
			list := onLines(plane, n)
			for _, polarity := range []int{1, -1} {
				wantMissed(t, list, plane, polarity)
				wantMissed(t, flipped(t, list), plane, polarity)
			}
			other := (plane + 5) % 16
			missed := slices.Concat(missedBy(list, other, 1), missedBy(list, other, -1))
			if len(missed) != n {
				t.Error("Motions on the lines of plane", plane, "of which plane", other, "explains some twice", missed)
			}
		}
	}
}

func TestExplainedOfEachList(t *testing.T) {
	all, some, none := 0, 0, 0
	for _, list := range goodMotionLists() {
		for plane := range 16 {
			for _, polarity := range []int{1, -1} {
				missed := missedBy(list, plane, polarity)
				wantMissed(t, list, plane, polarity, missed...)
				switch len(missed) {
				case 0:
					all++
				case len(list):
					none++
				default:
					some++
				}
			}
		}
	}
	if min(all, some, none) < 400 {
		t.Error("too few lists of a kind", all, some, none)
	}
}

func TestBestPlane(t *testing.T) {
	wantBestPlane(t, ordinaryMotions(), 0, 1)
	wantBestPlane(t, flipped(t, ordinaryMotions()), 0, -1)
	wantBestPlane(t, motionsOf([3]int{5, 5, 1}), 0, 1)
	wantBestPlane(t, motionsOf([3]int{5, 5, -1}), 0, -1)
	wantBestPlane(t, motionsOf([3]int{-5, 5, 1}), 0, -1)
	wantBestPlane(t, motionsOf([3]int{-5, 5, -1}), 0, 1)
	// Only the lines of plane 8 have both.
	wantBestPlane(t, motionsOf([3]int{5, 5, 1}, [3]int{-5, 5, 1}), 8, 1)
	wantBestPlane(t, motionsOf([3]int{5, 5, -1}, [3]int{-5, 5, -1}), 8, 1)
	wantNoBestPlane(t, nil)
	wantNoBestPlane(t, []impl.Motion{})
	for plane := range 16 {
		for _, polarity := range []int{1, -1} {
			wantBestPlane(t, besideFirst(plane, polarity), plane, polarity)
			wantBestPlane(t, turned(t, besideFirst(plane, polarity)), plane, -polarity)
		}
	}
}

func TestBestPlaneOfSeveral(t *testing.T) {
	// Both polarities of each plane explain one.
	wantBestPlane(t, atRightAngle(), 0, 1)
	wantBestPlane(t, flipped(t, atRightAngle()), 0, 1)
	// On the lines, both polarities of plane 0 explain all.
	wantBestPlane(t, motionsOf([3]int{5, 0, 1}, [3]int{0, 5, 1}, [3]int{-9, 0, -1}), 0, 1)
	wantBestPlane(t, motionsOf([3]int{5, 0, -1}), 0, 1)
	// Plane 0 explains it with the polarity -1, the others with 1.
	wantBestPlane(t, motionsOf([3]int{100, 1, -1}), 0, -1)
	wantBestPlane(t, motionsOf([3]int{100, 1, 1}), 0, 1)
	// The first Motion is between the first lines of planes 2 and 3, the second one between those of planes 9 and 10.
	wantBestPlane(t, motionsOf([3]int{10, 2, 1}, [3]int{20, 30, -1}), 3, -1)
	wantBestPlane(t, motionsOf([3]int{10, 2, -1}, [3]int{20, 30, 1}), 3, 1)
	// Between the first Motion and the second one turned, there is only the first line of plane 5.
	wantBestPlane(t, motionsOf([3]int{10, 5, 1}, [3]int{4, -10, 1}), 5, 1)
	wantBestPlane(t, motionsOf([3]int{10, 5, -1}, [3]int{4, -10, -1}), 5, -1)
}

func TestPlanesWith(t *testing.T) {
	// Planes 2, 4 and 6 each have one of the first three Motions on their lines.
	wantPlanes(t, ordinaryMotions(), 0, append([]int{0}, countUp(6, 15)...)...)
	wantPlanes(t, ordinaryMotions(), 1, append([]int{0, 1, 2}, countUp(5, 15)...)...)
	wantPlanes(t, ordinaryMotions(), 2, allPlanes()...)
	wantPlanes(t, motionsOf([3]int{10, 2, 1}, [3]int{20, 30, -1}), 0, countUp(3, 9)...)
	// All of them, some of them and none of them.
	wantPlanes(t, atRightAngle(), 1, allPlanes()...)
	wantPlanes(t, atRightAngle(), 0)
	wantPlanes(t, motionsOf([3]int{10, 5, 1}, [3]int{4, -10, 1}), 0, 5)
	wantPlanes(t, motionsOf([3]int{10, 5, 1}, [3]int{4, -10, 1}), 1, allPlanes()...)
	for plane := range 16 {
		for _, polarity := range []int{1, -1} {
			wantPlanes(t, besideFirst(plane, polarity), 0, plane)
			wantPlanes(t, besideFirst(plane, polarity), 1, allPlanes()...)
		}
	}
	for misses := range 13 {
		wantPlanes(t, nil, misses, allPlanes()...)
		wantPlanes(t, []impl.Motion{}, misses, allPlanes()...)
		wantPlanes(t, motionsOf([3]int{10, 5, 1}), misses, allPlanes()...)
	}
}

func TestFewestMisses(t *testing.T) {
	wantFewest(t, nil, 0)
	wantFewest(t, []impl.Motion{}, 0)
	wantFewest(t, ordinaryMotions(), 0)
	wantFewest(t, atRightAngle(), 1)
	wantFewest(t, motionsOf([3]int{100, 1, 1}, [3]int{-1, 100, 1}, [3]int{-100, -1, -1}, [3]int{1, -100, -1}), 2)
	wantFewest(t, motionsOf([3]int{100, 1, 1}, [3]int{-1, 100, 1}, [3]int{-100, -1, 1}), 1)
	// At one place, each second one goes up.
	for n := range 13 {
		list := motionsWithStations(countUp(1, n)...)
		for i := range list {
			list[i].Sign = 1 - i%2*2
		}
		wantFewest(t, list, n/2)
	}
	for plane := range 16 {
		wantFewest(t, onLines(plane, 12), 0)
		wantFewest(t, besideFirst(plane, 1), 0)
	}
}

// TestThePlanesOfEachList compares BestPlane, PlanesWith and FewestMisses with all planes and both polarities.
func TestThePlanesOfEachList(t *testing.T) {
	up, down, later, equal := 0, 0, 0, 0
	for _, list := range goodMotionLists() {
		fewest := len(list) + 1
		plane, polarity := 0, 0
		least := []int{}
		for k := range 16 {
			for _, q := range []int{1, -1} {
				if n := len(missedBy(list, k, q)); n < fewest {
					fewest, plane, polarity = n, k, q
				}
			}
			least = append(least, min(len(missedBy(list, k, 1)), len(missedBy(list, k, -1))))
		}
		wantFewest(t, list, fewest)
		for misses := range 13 {
			kept := slices.DeleteFunc(allPlanes(), func(k int) bool { return least[k] > misses })
			wantPlanes(t, list, misses, kept...)
		}
		if len(list) == 0 {
			wantNoBestPlane(t, list)
			continue
		}
		wantBestPlane(t, list, plane, polarity)
		up, down = up+(1+polarity)/2, down+(1-polarity)/2
		later += min(plane, 1)
		if len(missedBy(list, plane, -polarity)) == fewest {
			equal++
		}
	}
	if min(up, down, later, equal) < 25 {
		t.Error("too few lists of a kind", up, down, later, equal)
	}
}

func TestTurnMotions(t *testing.T) {
	list := motionsOf([3]int{5, 3, 1}, [3]int{-7, 2, -1}, [3]int{0, 9, 1}, [3]int{9, 0, -1}, [3]int{999, -999, 1}, [3]int{-999, 0, 1})
	got, ok := impl.TurnMotions(list)
	wantMotions(t, "TurnMotions", got, ok, motionsOf([3]int{-3, 5, 1}, [3]int{-2, -7, -1}, [3]int{-9, 0, 1}, [3]int{0, 9, -1}, [3]int{999, 999, 1}, [3]int{0, -999, 1}))
	got, ok = impl.TurnMotions(nil)
	wantMotions(t, "TurnMotions", got, ok, nil)
}

func TestMotionsTurnedFourTimesAreTheSame(t *testing.T) {
	for _, list := range goodMotionLists() {
		given := slices.Clone(list)
		once := turned(t, list)
		twice := turned(t, once)
		for i, m := range list {
			if want := motionAt(m.Station, -m.Y, m.X, m.Sign); once[i] != want {
				t.Errorf("turned once: %v; want %v", once[i], want)
			}
			if want := motionAt(m.Station, -m.X, -m.Y, m.Sign); twice[i] != want {
				t.Errorf("turned twice: %v; want %v", twice[i], want)
			}
		}
		wantMotions(t, "turned four times", turned(t, turned(t, twice)), true, given)
		wantMotions(t, "what is given", list, true, given)
	}
}

func TestTurnedMotionsHaveTheOtherPolarity(t *testing.T) {
	for _, list := range goodMotionLists() {
		for plane := range 16 {
			for _, polarity := range []int{1, -1} {
				wantMissed(t, turned(t, list), plane, -polarity, missedBy(list, plane, polarity)...)
			}
		}
	}
}

func TestFlipMotions(t *testing.T) {
	list := motionsOf([3]int{5, 3, 1}, [3]int{-7, 2, -1}, [3]int{0, 9, 1}, [3]int{999, -999, -1})
	got, ok := impl.FlipMotions(list)
	wantMotions(t, "FlipMotions", got, ok, motionsOf([3]int{5, 3, -1}, [3]int{-7, 2, 1}, [3]int{0, 9, -1}, [3]int{999, -999, 1}))
	got, ok = impl.FlipMotions(nil)
	wantMotions(t, "FlipMotions", got, ok, nil)
}

func TestMotionsFlippedTwiceAreTheSame(t *testing.T) {
	for _, list := range goodMotionLists() {
		given := slices.Clone(list)
		once := flipped(t, list)
		for i, m := range list {
			if want := motionAt(m.Station, m.X, m.Y, -m.Sign); once[i] != want {
				t.Errorf("flipped once: %v; want %v", once[i], want)
			}
		}
		wantMotions(t, "flipped twice", flipped(t, once), true, given)
		wantMotions(t, "what is given", list, true, given)
	}
}

// Promise 13.
func TestAPlaneExplainsFlippedMotionsWithTheOtherPolarity(t *testing.T) {
	whole, parts := 0, 0
	for _, list := range goodMotionLists() {
		other := flipped(t, list)
		for plane := range 16 {
			for _, polarity := range []int{1, -1} {
				n, ok := impl.Explained(list, plane, polarity)
				m, okay := impl.Explained(other, plane, -polarity)
				if !ok || !okay || n != m {
					t.Errorf("plane %d explains %d, %v of %v with %d, and %d, %v of %v", plane, n, ok, list, polarity, m, okay, other)
				}
				missed, _ := impl.NotExplained(list, plane, polarity)
				wantMissed(t, other, plane, -polarity, missed...)
				if len(list) == 0 {
					continue
				}
				if n == len(list) {
					whole++
				} else {
					parts++
				}
			}
		}
	}
	if min(whole, parts) < 1000 {
		t.Error("too few lists of a kind", whole, parts)
	}
}

func TestAPlaneExplainsAllFlippedMotionsThatItHasSeen(t *testing.T) {
	for plane := range 16 {
		for _, polarity := range []int{1, -1} {
			for seed := range 30 {
				list := seenBy(slices.Concat(scatteredMotions(seed, 11, 3+33*seed), motionsWithStations(99)), plane, polarity)
				wantMissed(t, list, plane, polarity)
				wantMissed(t, flipped(t, list), plane, -polarity)
				wantFewest(t, list, 0)
				wantFewest(t, flipped(t, list), 0)
			}
		}
	}
}

// withMotionsBehind returns list with room behind its length, and the whole of it.
func withMotionsBehind(list []impl.Motion) ([]impl.Motion, []impl.Motion) {
	backing := append(slices.Clone(list), slices.Repeat([]impl.Motion{motionAt(99, 999, -1, -1)}, 15)...)
	return backing[:len(list)], backing
}

// callMotionFunctions calls each function of the chapter with a list, and spoils what they return.
func callMotionFunctions(list []impl.Motion) {
	impl.AreMotions(list)
	impl.BestPlane(list)
	impl.FewestMisses(list)
	for _, m := range list {
		impl.QuadrantOf(m, 8)
	}
	turned, _ := impl.TurnMotions(list)
	flipped, _ := impl.FlipMotions(list)
	for _, result := range [][]impl.Motion{turned, flipped} {
		whole := result[:cap(result)]
		for i := range whole {
			whole[i] = motionAt(-9, -9, -9, -9)
		}
	}
	for _, n := range []int{-1, 0, 1, 8, 15} {
		impl.Explained(list, n, 1)
		missed, _ := impl.NotExplained(list, n, -1)
		kept, _ := impl.PlanesWith(list, n)
		for _, result := range [][]int{missed, kept} {
			whole := result[:cap(result)]
			for i := range whole {
				whole[i] = -9
			}
		}
	}
}

func TestMotionFunctionsKeepTheirArguments(t *testing.T) {
	for _, list := range slices.Concat(goodMotionLists(), badMotionLists()) {
		given, behind := withMotionsBehind(list)
		want := slices.Clone(behind)
		callMotionFunctions(given)
		if !slices.Equal(behind, want) {
			t.Fatalf("an argument changed: %.300v; want %.300v", behind, want)
		}
	}
}

func TestMotionFunctionsReadNothingBehindTheLength(t *testing.T) {
	// Of these, only the first five are Motions, and plane 0 explains only the first three.
	whole := append(motionsOf([3]int{5, 3, 1}, [3]int{-5, 3, -1}, [3]int{0, 3, -1}, [3]int{5, 4, -1}, [3]int{5, 4, -1}), impl.Motion{})
	missed := []int{12, 15}
	for n := 1; n <= 5; n++ {
		wantMissed(t, whole[:n], 0, 1, missed[:max(0, n-3)]...)
	}
	wantNoMotions(t, whole)
	wantNoBestPlane(t, whole[:0])
	wantFewest(t, whole[:3], 0)
	wantFewest(t, whole[:4], 1)
	wantMotions(t, "turned", turned(t, whole[:2]), true, motionsOf([3]int{-3, 5, 1}, [3]int{-3, -5, -1}))
	wantMotions(t, "flipped", flipped(t, whole[:2]), true, motionsOf([3]int{5, 3, -1}, [3]int{-5, 3, 1}))
}

func TestMotionResultsAreOfTheirOwn(t *testing.T) {
	for range 3 {
		list := ordinaryMotions()
		wantMissed(t, list, 0, -1, 3, 6, 9, 12)
		wantPlanes(t, atRightAngle(), 1, allPlanes()...)
		next, other := turned(t, list), flipped(t, list)
		callMotionFunctions(list)
		list[0], list[1].X = motionAt(9, 9, 9, 1), -1
		if next[0] != motionAt(3, -30, 50, 1) || next[1] != motionAt(6, -60, -20, -1) || other[0] != motionAt(3, 50, 30, -1) || other[1] != motionAt(6, -20, 60, 1) {
			t.Error("a result shares memory with its argument", next, other)
		}
		next[2], other[2] = motionAt(8, 8, 8, 1), motionAt(8, 8, 8, 1)
		if list[2] != motionAt(9, -70, -10, 1) {
			t.Error("an argument shares memory with a result", list)
		}
	}
}
