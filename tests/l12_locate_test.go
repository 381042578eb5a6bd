package tests

import (
	"math"
	"slices"
	"testing"

	"loop.example/g01017/impl"
)

func cubeOf(west int, south int, side int, from int, to int) impl.Cube {
	return impl.Cube{West: west, South: south, Side: side, From: from, To: to}
}

// ordinaryCube has the places 64..95, 128..159 and the ticks 5000..5100.
func ordinaryCube() impl.Cube {
	return cubeOf(64, 128, 32, 5000, 5100)
}

func allSides() []int {
	return []int{1, 2, 4, 8, 16, 32, 64, 128, 256, 512}
}

func badSides() []int {
	return append(beyond(1, 512), -2, -512, 3, 5, 6, 12, 24, 100, 127, 129, 255, 257, 384, 511, 1023, 1024, 1<<32, 1<<32+64)
}

// lastCorner returns the greatest West and South of the Cubes with a Side.
func lastCorner(side int) int {
	return 999 / side * side
}

func goodCubes() []impl.Cube {
	good := []impl.Cube{ordinaryCube(), cubeOf(0, 0, 1, 0, 0), cubeOf(999, 999, 1, impl.MaxTick, impl.MaxTick), cubeOf(512, 512, 512, 0, impl.MaxTick), cubeOf(7, 9, 1, 5000, 5000)}
	for _, side := range allSides() {
		last := lastCorner(side)
		good = append(good, cubeOf(0, 0, side, 5000, 5001), cubeOf(last, 0, side, 0, 5000), cubeOf(0, last, side, 5000, impl.MaxTick), cubeOf(last, last, side, 7000, 7000), cubeOf(256/side*side, 512, side, 20000, 30000))
	}
	return good
}

// badCubes returns Cubes that are not valid, each for one reason.
func badCubes() []impl.Cube {
	bad := []impl.Cube{{}}
	for _, side := range badSides() {
		bad = append(bad, cubeOf(0, 0, side, 5000, 5100))
	}
	for _, n := range append(beyond(0, 999), 1, 63, 65, 70, 80, 95, 990, -32, -64, 1024, 1<<32) {
		bad = append(bad, cubeOf(n, 128, 32, 5000, 5100), cubeOf(64, n, 32, 5000, 5100))
	}
	for _, c := range [][2]int{{1, 2}, {999, 2}, {2, 4}, {997, 4}, {998, 4}, {999, 4}, {4, 8}, {128, 256}, {256, 512}, {500, 512}, {999, 512}} {
		bad = append(bad, cubeOf(c[0], 0, c[1], 5000, 5100), cubeOf(0, c[0], c[1], 5000, 5100))
	}
	for _, c := range [][2]int{{-1, 1}, {1000, 1}, {-2, 2}, {1000, 2}, {1000, 4}, {-8, 8}, {1000, 8}, {1008, 16}, {1024, 128}, {-512, 512}, {1024, 512}} {
		bad = append(bad, cubeOf(c[0], 0, c[1], 5000, 5100), cubeOf(0, c[0], c[1], 5000, 5100))
	}
	for _, n := range beyond(0, impl.MaxTick) {
		bad = append(bad, cubeOf(64, 128, 32, n, 5100), cubeOf(64, 128, 32, 5000, n), cubeOf(64, 128, 32, n, n))
	}
	return append(bad, cubeOf(64, 128, 32, 5101, 5100), cubeOf(64, 128, 32, 1, 0), cubeOf(64, 128, 32, impl.MaxTick, impl.MaxTick-1), cubeOf(64, 128, 32, impl.MaxTick, 0))
}

// noArrivals returns lists with which nothing can be located.
func noArrivals() [][]impl.Arrival {
	return append(badArrivalLists(), nil, []impl.Arrival{})
}

// fromAnywhere returns one Arrival at a place with a great Error: long before its tick and long behind it, a wave may
// have come from any place.
func fromAnywhere(x int, y int, tick int) []impl.Arrival {
	return arrivalsOf([4]int{x, y, tick, 1000})
}

// waveFrom returns n Arrivals of a wave from an Origin, the Errors of which are at most err, and great enough.
func waveFrom(seed int, n int, o impl.Origin, err int) []impl.Arrival {
	list := []impl.Arrival{}
	raw := numbers(seed, 4*n, 1000)
	for i := range n {
		r := raw[4*i : 4*i+4]
		a := arrivalAt(5*i+1+seed%9, r[0], r[1], 0, max(1, r[2]*(err+1)/1000))
		way := 20 * math.Hypot(float64(a.X-o.X), float64(a.Y-o.Y))
		a.Tick = o.Tick + int(way) + r[3]%(a.Error+1) - a.Error/2
		a.Tick = max(0, a.Tick)
		list = append(list, a)
	}
	return list
}

// cubeAround returns the Cube with a Side that has the place of an Origin, from some ticks before it to some behind it.
func cubeAround(o impl.Origin, side int, before int, behind int) impl.Cube {
	return cubeOf(o.X/side*side, o.Y/side*side, side, max(0, o.Tick-before), min(impl.MaxTick, o.Tick+behind))
}

// squaresBy compares all numbers of both sides of a Cube one by one.
func squaresBy(b impl.Cube, x int, y int) (int, int) {
	lowX, highX := math.MaxInt, 0
	lowY, highY := math.MaxInt, 0
	for n := range b.Side {
		dx, dy := b.West+n-x, b.South+n-y
		lowX, highX = min(lowX, dx*dx), max(highX, dx*dx)
		lowY, highY = min(lowY, dy*dy), max(highY, dy*dy)
	}
	return lowX + lowY, highX + highY
}

func possibleBy(list []impl.Arrival, b impl.Cube) bool {
	for _, a := range list {
		low, high := squaresBy(b, a.X, a.Y)
		late, early := a.Tick+a.Error-b.From, a.Tick-a.Error-b.To
		if late < 0 || 400*low > late*late {
			return false
		}
		if early > 0 && 400*high < early*early {
			return false
		}
	}
	return true
}

// partsBy returns the Cubes with a Side whose corners are in a Cube and on the map, in order.
func partsBy(b impl.Cube, side int) []impl.Cube {
	parts := []impl.Cube{}
	for west := 0; west <= 999; west += side {
		for south := 0; south <= 999; south += side {
			if b.West <= west && west < b.West+b.Side && b.South <= south && south < b.South+b.Side {
				parts = append(parts, cubeOf(west, south, side, b.From, b.To))
			}
		}
	}
	return parts
}

// locatedBy looks at each Cube with a Side, and at the ones that it came from.
func locatedBy(list []impl.Arrival, b impl.Cube, side int) []impl.Cube {
	located := []impl.Cube{}
	for _, part := range partsBy(b, side) {
		whole := true
		for s := side; s <= b.Side && whole; s *= 2 {
			whole = possibleBy(list, cubeOf(part.West/s*s, part.South/s*s, s, b.From, b.To))
		}
		if whole {
			located = append(located, part)
		}
	}
	return located
}

func consistentBy(list []impl.Arrival, o impl.Origin) bool {
	for _, a := range list {
		if !fitsBy(a, o) {
			return false
		}
	}
	return true
}

// heldBy reports whether a Cube has an Origin.
func heldBy(b impl.Cube, o impl.Origin) bool {
	return o.X/b.Side*b.Side == b.West && o.Y/b.Side*b.Side == b.South && b.From <= o.Tick && o.Tick <= b.To
}

// consistentOrigins returns all consistent Origins of a Cube, which should have few ticks.
func consistentOrigins(list []impl.Arrival, b impl.Cube) []impl.Origin {
	origins := []impl.Origin{}
	for x := b.West; x < b.West+b.Side && x <= 999; x++ {
		for y := b.South; y < b.South+b.Side && y <= 999; y++ {
			for tick := b.From; tick <= b.To; tick++ {
				if o := originAt(x, y, tick); consistentBy(list, o) {
					origins = append(origins, o)
				}
			}
		}
	}
	return origins
}

func placesOf(origins []impl.Origin) int {
	places := map[[2]int]bool{}
	for _, o := range origins {
		places[[2]int{o.X, o.Y}] = true
	}
	return len(places)
}

func wantSquares(t *testing.T, b impl.Cube, x int, y int, low int, high int) {
	t.Helper()
	if p, q, ok := impl.ReachOf(b, x, y); !ok || p != low || q != high {
		t.Errorf("ReachOf(%v, %d, %d) = %d, %d, %v; want %d, %d, true", b, x, y, p, q, ok, low, high)
	}
}

func wantNoSquares(t *testing.T, b impl.Cube, x int, y int) {
	t.Helper()
	p, q, ok := impl.ReachOf(b, x, y)
	wantNoFraction(t, "ReachOf", p, q, ok)
}

func wantPossible(t *testing.T, list []impl.Arrival, b impl.Cube, want bool) {
	t.Helper()
	if is, ok := impl.IsPossible(list, b); !ok || is != want {
		t.Errorf("IsPossible(%v, %v) = %v, %v; want %v, true", list, b, is, ok, want)
	}
}

func wantParts(t *testing.T, b impl.Cube, want []impl.Cube) {
	t.Helper()
	if parts, ok := impl.SplitCube(b); !ok || !slices.Equal(parts, want) {
		t.Errorf("SplitCube(%v) = %v, %v; want %v, true", b, parts, ok, want)
	}
}

func wantNoParts(t *testing.T, b impl.Cube) {
	t.Helper()
	if parts, ok := impl.SplitCube(b); ok || len(parts) != 0 {
		t.Errorf("SplitCube(%v) = %v, %v; want none, false", b, parts, ok)
	}
}

// wantLocated checks LocateIn and ProvesNone.
func wantLocated(t *testing.T, list []impl.Arrival, b impl.Cube, side int, want []impl.Cube) {
	t.Helper()
	if got, ok := impl.LocateIn(list, b, side); !ok || !slices.Equal(got, want) {
		t.Errorf("LocateIn(%v, %v, %d) = %v, %v; want %v, true", list, b, side, got, ok, want)
	}
	if none, ok := impl.ProvesNone(list, b, side); !ok || none != (len(want) == 0) {
		t.Errorf("ProvesNone(%v, %v, %d) = %v, %v; want %v, true", list, b, side, none, ok, len(want) == 0)
	}
}

// wantNotLocated checks that LocateIn and ProvesNone fail, which is not the same as finding none.
func wantNotLocated(t *testing.T, list []impl.Arrival, b impl.Cube, side int) {
	t.Helper()
	if got, ok := impl.LocateIn(list, b, side); ok || len(got) != 0 {
		t.Errorf("LocateIn(%v, %v, %d) = %v, %v; want none, false", list, b, side, got, ok)
	}
	if none, ok := impl.ProvesNone(list, b, side); ok || none {
		t.Errorf("ProvesNone(%v, %v, %d) = %v, %v; want false, false", list, b, side, none, ok)
	}
}

func wantConsistent(t *testing.T, list []impl.Arrival, o impl.Origin, want bool) {
	t.Helper()
	if is, ok := impl.IsConsistent(list, o); !ok || is != want {
		t.Errorf("IsConsistent(%v, %v) = %v, %v; want %v, true", list, o, is, ok, want)
	}
}

func wantNotJudged(t *testing.T, list []impl.Arrival, o impl.Origin) {
	t.Helper()
	if is, ok := impl.IsConsistent(list, o); ok || is {
		t.Errorf("IsConsistent(%v, %v) = %v, %v; want false, false", list, o, is, ok)
	}
}

func wantPlaces(t *testing.T, list []impl.Arrival, b impl.Cube, want int) {
	t.Helper()
	if n, ok := impl.ConsistentIn(list, b); !ok || n != want {
		t.Errorf("ConsistentIn(%v, %v) = %d, %v; want %d, true", list, b, n, ok, want)
	}
}

func wantNoPlaces(t *testing.T, list []impl.Arrival, b impl.Cube) {
	t.Helper()
	if n, ok := impl.ConsistentIn(list, b); ok || n != 0 {
		t.Errorf("ConsistentIn(%v, %v) = %d, %v; want 0, false", list, b, n, ok)
	}
}

func wantHolder(t *testing.T, cubes []impl.Cube, o impl.Origin, want int) {
	t.Helper()
	if i, ok := impl.HolderOf(cubes, o); !ok || i != want {
		t.Errorf("HolderOf(%v, %v) = %d, %v; want %d, true", cubes, o, i, ok, want)
	}
}

func wantNoHolder(t *testing.T, cubes []impl.Cube, o impl.Origin) {
	t.Helper()
	if i, ok := impl.HolderOf(cubes, o); ok || i != 0 {
		t.Errorf("HolderOf(%v, %v) = %d, %v; want 0, false", cubes, o, i, ok)
	}
}

func TestIsCube(t *testing.T) {
	if impl.MaxBoxes != 64 {
		t.Error("limit", impl.MaxBoxes)
	}
	for _, b := range goodCubes() {
		if !impl.IsCube(b) {
			t.Errorf("IsCube(%v) = false", b)
		}
	}
	for _, b := range badCubes() {
		if impl.IsCube(b) {
			t.Errorf("IsCube(%v) = true", b)
		}
	}
}

func TestIsCubeOfEachSideAndCorner(t *testing.T) {
	for side := -20; side <= 1100; side++ {
		if got := impl.IsCube(cubeOf(0, 0, side, 3, 4)); got != slices.Contains(allSides(), side) {
			t.Errorf("IsCube with the Side %d = %v", side, got)
		}
	}
	for _, side := range allSides() {
		for n := -600; n <= 1600; n++ {
			want := n >= 0 && n < 1000 && n%side == 0
			if impl.IsCube(cubeOf(n, 0, side, 3, 4)) != want || impl.IsCube(cubeOf(0, n, side, 3, 4)) != want || impl.IsCube(cubeOf(n, n, side, 3, 4)) != want {
				t.Errorf("IsCube with the Side %d at %d = %v", side, n, !want)
			}
		}
	}
}

func TestIsCubeAtTheTicks(t *testing.T) {
	edges := []int{-2, -1, 0, 1, 2, 500, impl.MaxTick - 1, impl.MaxTick, impl.MaxTick + 1, impl.MaxTick + 2}
	for _, from := range edges {
		for _, to := range edges {
			want := 0 <= from && from <= to && to <= impl.MaxTick
			if impl.IsCube(cubeOf(64, 128, 32, from, to)) != want {
				t.Errorf("IsCube with the ticks %d..%d = %v", from, to, !want)
			}
		}
	}
}

func TestLocateFunctionsFailForInvalidCubes(t *testing.T) {
	lists := [][]impl.Arrival{ordinaryArrivals(), farApart(8), together(8, 5000), fromAnywhere(64, 128, 6000)}
	for _, b := range badCubes() {
		wantNoParts(t, b)
		for _, p := range [][2]int{{0, 0}, {64, 128}, {500, 600}, {999, 999}} {
			wantNoSquares(t, b, p[0], p[1])
		}
		for _, list := range lists {
			if is, ok := impl.IsPossible(list, b); ok || is {
				t.Errorf("IsPossible(%v, %v) = %v, %v; want false, false", list, b, is, ok)
			}
			wantNoPlaces(t, list, b)
			for _, side := range append(allSides(), b.Side) {
				wantNotLocated(t, list, b, side)
			}
		}
	}
}

func TestLocateFunctionsFailForInvalidArrivals(t *testing.T) {
	for _, list := range noArrivals() {
		for _, b := range []impl.Cube{ordinaryCube(), cubeOf(0, 0, 512, 0, impl.MaxTick), cubeOf(30, 40, 1, 0, 5000), cubeOf(192, 288, 16, 5000, 5000), cubeOf(992, 992, 8, 0, 0)} {
			if is, ok := impl.IsPossible(list, b); ok || is {
				t.Errorf("IsPossible(%v, %v) = %v, %v; want false, false", list, b, is, ok)
			}
			wantNoPlaces(t, list, b)
			wantNotLocated(t, list, b, b.Side)
			wantNotLocated(t, list, b, 1)
		}
		for _, o := range append(goodOrigins(), originAt(200, 300, 5000), originAt(30, 40, 700)) {
			wantNotJudged(t, list, o)
		}
	}
}

func TestLocateFunctionsFailForInvalidNumbers(t *testing.T) {
	for _, b := range goodCubes() {
		for _, p := range badPlaces() {
			wantNoSquares(t, b, p[0], p[1])
		}
		for _, list := range [][]impl.Arrival{together(8, 5000), fromAnywhere(64, 128, 6000), arrivalsOf([4]int{500, 500, 0, 0})} {
			for _, side := range append(badSides(), 2*b.Side, 512) {
				if side != b.Side {
					wantNotLocated(t, list, b, side)
				}
			}
		}
	}
	for _, o := range badOrigins() {
		for _, list := range goodArrivalLists() {
			wantNotJudged(t, list, o)
		}
		wantNoHolder(t, goodCubes(), o)
		wantNoHolder(t, []impl.Cube{cubeOf(0, 0, 512, 0, impl.MaxTick), cubeOf(512, 512, 512, 0, impl.MaxTick), cubeOf(992, 32, 32, 0, impl.MaxTick), cubeOf(0, 992, 32, 0, impl.MaxTick)}, o)
	}
}

func TestReachOf(t *testing.T) {
	b := ordinaryCube()
	// Inside, on each edge, at two corners.
	for _, c := range [][4]int{{70, 140, 0, 986}, {64, 140, 0, 1322}, {95, 140, 0, 1322}, {70, 128, 0, 1586}, {70, 159, 0, 1586}, {64, 128, 0, 1922}, {95, 159, 0, 1922}, {64, 159, 0, 1922}, {95, 128, 0, 1922}} {
		wantSquares(t, b, c[0], c[1], c[2], c[3])
	}
	// On either side of it, and beyond its corners.
	for _, c := range [][4]int{{60, 140, 16, 1586}, {63, 140, 1, 1385}, {96, 140, 1, 1385}, {70, 120, 64, 2146}, {70, 160, 1, 1649}, {61, 124, 25, 2381}, {96, 160, 2, 2048}, {63, 160, 2, 2048}, {63, 127, 2, 2048}, {96, 127, 2, 2048}} {
		wantSquares(t, b, c[0], c[1], c[2], c[3])
	}
	// A Cube with one place has one distance.
	one := cubeOf(7, 9, 1, 0, 0)
	for _, c := range [][3]int{{7, 9, 0}, {8, 9, 1}, {6, 9, 1}, {7, 8, 1}, {7, 10, 1}, {10, 13, 25}, {4, 5, 25}, {999, 9, 984064}} {
		wantSquares(t, one, c[0], c[1], c[2], c[2])
	}
	// The ticks play no part.
	wantSquares(t, cubeOf(4, 8, 4, 0, 0), 2, 9, 4, 29)
	wantSquares(t, cubeOf(4, 8, 4, 7, impl.MaxTick), 2, 9, 4, 29)
}

func TestReachOfACubeAtTheEdgeOfTheMap(t *testing.T) {
	// Its numbers go on beyond 999.
	wantSquares(t, cubeOf(992, 0, 16, 0, 0), 0, 0, 984064, 1014274)
	wantSquares(t, cubeOf(0, 992, 16, 0, 0), 0, 0, 984064, 1014274)
	wantSquares(t, cubeOf(992, 992, 32, 0, 0), 999, 999, 0, 1152)
	wantSquares(t, cubeOf(992, 992, 8, 0, 0), 999, 999, 0, 98)
	wantSquares(t, cubeOf(512, 512, 512, 0, 0), 0, 0, 524288, 2093058)
	wantSquares(t, cubeOf(512, 512, 512, 0, 0), 999, 999, 0, 474338)
	wantSquares(t, cubeOf(0, 0, 512, 0, 0), 999, 999, 476288, 1996002)
	wantSquares(t, cubeOf(0, 512, 512, 0, 0), 255, 511, 1, 327680)
	wantSquares(t, cubeOf(0, 512, 512, 0, 0), 256, 511, 1, 327680)
}

func TestReachOfManyPlaces(t *testing.T) {
	for _, b := range goodCubes() {
		for _, x := range []int{0, 1, b.West - 2, b.West - 1, b.West, b.West + 1, b.West + b.Side/2 - 1, b.West + b.Side/2, b.West + b.Side - 2, b.West + b.Side - 1, b.West + b.Side, b.West + b.Side + 1, 500, 998, 999} {
			for _, y := range []int{0, 1, b.South - 1, b.South, b.South + b.Side/2 - 1, b.South + b.Side/2, b.South + b.Side - 1, b.South + b.Side, 501, 999} {
				if x < 0 || y < 0 || x > 999 || y > 999 {
					wantNoSquares(t, b, x, y)
					continue
				}
				low, high := squaresBy(b, x, y)
				wantSquares(t, b, x, y, low, high)
			}
		}
	}
}

func TestIsPossibleAtTheSmallestSquare(t *testing.T) {
	b := ordinaryCube()
	for _, err := range []int{0, 1, 50, 200} {
		// The nearest place is 5 kilometers away, or 100 ticks.
		wantPossible(t, arrivalsOf([4]int{61, 124, 5100 - err, err}), b, true)
		wantPossible(t, arrivalsOf([4]int{61, 124, 5099 - err, err}), b, false)
		// The nearest place is a root of 2 away, or 28.3 ticks.
		wantPossible(t, arrivalsOf([4]int{96, 160, 5029 - err, err}), b, true)
		wantPossible(t, arrivalsOf([4]int{96, 160, 5028 - err, err}), b, false)
		// The nearest place is this one itself, and the wave must not come before it starts.
		for _, p := range [][2]int{{70, 140}, {64, 128}, {95, 159}} {
			wantPossible(t, arrivalsOf([4]int{p[0], p[1], 5000 - err, err}), b, true)
			wantPossible(t, arrivalsOf([4]int{p[0], p[1], 4999 - err, err}), b, false)
		}
	}
	// However much too early it is, its square is great.
	for _, tick := range []int{4999, 4900, 4800, 4000, 3000, 0} {
		wantPossible(t, arrivalsOf([4]int{61, 124, tick, 0}), b, false)
		wantPossible(t, arrivalsOf([4]int{70, 140, tick, 0}), b, false)
	}
}

func TestIsPossibleAtTheGreatestSquare(t *testing.T) {
	b := ordinaryCube()
	for _, err := range []int{0, 1, 50, 1000} {
		// The farthest place is the root of 2381 away, or 975.9 ticks.
		wantPossible(t, arrivalsOf([4]int{61, 124, 6075 + err, err}), b, true)
		wantPossible(t, arrivalsOf([4]int{61, 124, 6076 + err, err}), b, false)
		// The farthest place is the root of 986 away, or 628.01 ticks.
		wantPossible(t, arrivalsOf([4]int{70, 140, 5728 + err, err}), b, true)
		wantPossible(t, arrivalsOf([4]int{70, 140, 5729 + err, err}), b, false)
	}
	// 31 kilometers to one side only, and so a whole number of ticks.
	line := cubeOf(960, 31, 1, 5000, 5100)
	wantPossible(t, arrivalsOf([4]int{929, 31, 5720, 0}), line, true)
	wantPossible(t, arrivalsOf([4]int{929, 31, 5721, 0}), line, false)
	wantPossible(t, arrivalsOf([4]int{929, 31, 5620, 0}), line, true)
	wantPossible(t, arrivalsOf([4]int{929, 31, 5619, 0}), line, false)
	wantPossible(t, arrivalsOf([4]int{929, 31, 5721, 1}), line, true)
	wantPossible(t, arrivalsOf([4]int{929, 31, 5722, 1}), line, false)
}

func TestIsPossibleAtThePlaceOfTheArrival(t *testing.T) {
	// All squares are 0, so that only the ticks decide.
	one := cubeOf(7, 9, 1, 5000, 5100)
	for _, err := range []int{0, 1, 7, 100, 1000} {
		for _, c := range []struct {
			tick int
			want bool
		}{{5000 - err, true}, {4999 - err, false}, {5100 + err, true}, {5101 + err, false}, {5099 + err, true}, {5001 - err, true}, {4500 - err, false}, {5600 + err, false}} {
			wantPossible(t, arrivalsOf([4]int{7, 9, c.tick, err}), one, c.want)
		}
		wantPossible(t, arrivalsOf([4]int{7, 9, 5050, err}), one, true)
	}
	wantPossible(t, arrivalsOf([4]int{7, 9, 5000, 0}), cubeOf(7, 9, 1, 5000, 5000), true)
	wantPossible(t, arrivalsOf([4]int{0, 0, 0, 0}), cubeOf(0, 0, 1, 0, 0), true)
	wantPossible(t, arrivalsOf([4]int{999, 999, impl.MaxTick, 0}), cubeOf(999, 999, 1, impl.MaxTick, impl.MaxTick), true)
	// The early limit may lie far before the Cube.
	wantPossible(t, arrivalsOf([4]int{7, 9, 1500, 1000}), cubeOf(7, 9, 1, 2000, impl.MaxTick), true)
}

func TestIsPossibleForAllArrivals(t *testing.T) {
	b := ordinaryCube()
	good := together(8, 5050)
	for i := range good {
		good[i].X, good[i].Y = 64+i, 128+i
		good[i].Tick = 5050
	}
	wantPossible(t, good, b, true)
	for i := range good {
		for _, tick := range []int{4999, 0, 9000, impl.MaxTick} {
			list := slices.Clone(good)
			list[i].Tick = tick
			wantPossible(t, list, b, false)
			wantPossible(t, list[:i+1], b, false)
			wantPossible(t, slices.Delete(list, i, i+1), b, true)
		}
	}
}

func TestIsPossibleAtTheEdgeOfTheMap(t *testing.T) {
	// Only numbers beyond 999 are so far away: the farthest place of the map, 999, 15, takes 19982.3 ticks.
	b := cubeOf(992, 0, 16, 5000, 5000)
	wantPossible(t, arrivalsOf([4]int{0, 0, 24983, 0}), b, true)
	wantPossible(t, arrivalsOf([4]int{0, 0, 25142, 0}), b, true)
	wantPossible(t, arrivalsOf([4]int{0, 0, 25143, 0}), b, false)
	wantLocated(t, arrivalsOf([4]int{0, 0, 25142, 0}), b, 16, []impl.Cube{b})
	wantLocated(t, arrivalsOf([4]int{0, 0, 25142, 0}), b, 8, []impl.Cube{})
	wantLocated(t, arrivalsOf([4]int{0, 0, 24983, 0}), b, 8, []impl.Cube{})
	wantLocated(t, arrivalsOf([4]int{0, 0, 24982, 0}), b, 8, []impl.Cube{cubeOf(992, 8, 8, 5000, 5000)})
}

func TestIsPossibleOfManyCubes(t *testing.T) {
	seen := map[bool]int{}
	for i, b := range goodCubes() {
		for seed := range 40 {
			o := originAt(min(999, b.West+seed%b.Side), min(999, b.South+seed*7%b.Side), b.From+(b.To-b.From)*seed/40)
			o.Tick = min(o.Tick, 900000)
			list := waveFrom(100*i+seed, 1+seed%8, o, 1<<(seed%10))
			if seed%3 == 0 {
				at := seed % len(list)
				list[at].Tick = max(0, list[at].Tick+numbers(seed+i, 1, 2000)[0]-1000)
			}
			want := possibleBy(list, b)
			seen[want]++
			wantPossible(t, list, b, want)
			if consistentBy(list, o) && heldBy(b, o) && !want {
				t.Errorf("the Cube %v has the Origin %v and is not possible", b, o)
			}
		}
	}
	for _, list := range goodArrivalLists() {
		if len(list) == 0 {
			continue
		}
		for _, b := range goodCubes() {
			want := possibleBy(list, b)
			seen[want]++
			wantPossible(t, list, b, want)
		}
	}
	if seen[false] < 500 || seen[true] < 500 {
		t.Error("too few of one kind", seen)
	}
}

func TestSplitCube(t *testing.T) {
	for _, c := range []struct {
		b       impl.Cube
		corners [][2]int
	}{
		{cubeOf(0, 0, 512, 7, 9), [][2]int{{0, 0}, {0, 256}, {256, 0}, {256, 256}}},
		{cubeOf(512, 0, 512, 7, 9), [][2]int{{512, 0}, {512, 256}, {768, 0}, {768, 256}}},
		{cubeOf(512, 512, 512, 7, 9), [][2]int{{512, 512}, {512, 768}, {768, 512}, {768, 768}}},
		{cubeOf(64, 128, 32, 0, impl.MaxTick), [][2]int{{64, 128}, {64, 144}, {80, 128}, {80, 144}}},
		{cubeOf(0, 0, 2, 0, 0), [][2]int{{0, 0}, {0, 1}, {1, 0}, {1, 1}}},
		{cubeOf(998, 998, 2, 7, 7), [][2]int{{998, 998}, {998, 999}, {999, 998}, {999, 999}}},
		{cubeOf(960, 960, 64, 7, 9), [][2]int{{960, 960}, {960, 992}, {992, 960}, {992, 992}}},
		{cubeOf(992, 992, 8, 7, 9), [][2]int{{992, 992}, {992, 996}, {996, 992}, {996, 996}}},
		// At the edge of the map in West, in South and in both.
		{cubeOf(992, 0, 16, 7, 9), [][2]int{{992, 0}, {992, 8}}},
		{cubeOf(0, 992, 16, 7, 9), [][2]int{{0, 992}, {8, 992}}},
		{cubeOf(992, 992, 16, 7, 9), [][2]int{{992, 992}}},
		{cubeOf(992, 960, 32, 7, 9), [][2]int{{992, 960}, {992, 976}}},
		{cubeOf(960, 992, 32, 7, 9), [][2]int{{960, 992}, {976, 992}}},
		{cubeOf(992, 992, 32, 7, 9), [][2]int{{992, 992}}},
	} {
		want := []impl.Cube{}
		for _, p := range c.corners {
			want = append(want, cubeOf(p[0], p[1], c.b.Side/2, c.b.From, c.b.To))
		}
		wantParts(t, c.b, want)
	}
	for _, b := range goodCubes() {
		if b.Side == 1 {
			wantNoParts(t, b)
		}
	}
}

func TestSplitCubeEverywhere(t *testing.T) {
	for _, side := range allSides()[1:] {
		corners := []int{}
		for n := 0; n <= 999; n += side {
			if n < 3*side || n > 999-3*side || n == 512 {
				corners = append(corners, n)
			}
		}
		for _, west := range corners {
			for _, south := range corners {
				b := cubeOf(west, south, side, west, 5*west+south)
				wantParts(t, b, partsBy(b, side/2))
			}
		}
	}
}

func TestThePartsHaveAllPlaces(t *testing.T) {
	for _, b := range goodCubes() {
		if b.Side == 1 || b.Side > 64 {
			continue
		}
		parts, _ := impl.SplitCube(b)
		for x := max(0, b.West-2); x <= min(999, b.West+b.Side+1); x++ {
			for y := max(0, b.South-2); y <= min(999, b.South+b.Side+1); y++ {
				o := originAt(x, y, b.To)
				holders := 0
				for _, part := range parts {
					if heldBy(part, o) {
						holders++
					}
				}
				if (holders == 1) != heldBy(b, o) || holders > 1 {
					t.Fatalf("the parts of %v have %v %d times", b, o, holders)
				}
			}
		}
	}
}

func TestLocateIn(t *testing.T) {
	list := arrivalsOf([4]int{100, 100, 1000, 10}, [4]int{200, 100, 3000, 10}, [4]int{100, 200, 3000, 10})
	b := cubeOf(0, 0, 512, 990, 1010)
	wantLocated(t, list, b, 512, []impl.Cube{b})
	wantLocated(t, list, b, 256, []impl.Cube{cubeOf(0, 0, 256, 990, 1010)})
	wantLocated(t, list, b, 64, []impl.Cube{cubeOf(64, 64, 64, 990, 1010)})
	wantLocated(t, list, b, 4, []impl.Cube{cubeOf(96, 100, 4, 990, 1010), cubeOf(100, 96, 4, 990, 1010), cubeOf(100, 100, 4, 990, 1010)})
	wantLocated(t, list, b, 1, []impl.Cube{cubeOf(99, 100, 1, 990, 1010), cubeOf(100, 99, 1, 990, 1010), cubeOf(100, 100, 1, 990, 1010), cubeOf(100, 101, 1, 990, 1010), cubeOf(101, 100, 1, 990, 1010)})
	// The Side of the Cube itself, half of it and 1.
	one := cubeOf(100, 100, 1, 990, 1010)
	wantLocated(t, list, one, 1, []impl.Cube{one})
	two := cubeOf(100, 100, 2, 1000, 1000)
	wantLocated(t, arrivalsOf([4]int{100, 100, 1020, 0}), two, 2, []impl.Cube{two})
	wantLocated(t, arrivalsOf([4]int{100, 100, 1020, 0}), two, 1, []impl.Cube{cubeOf(100, 101, 1, 1000, 1000), cubeOf(101, 100, 1, 1000, 1000)})
	wantLocated(t, arrivalsOf([4]int{100, 100, 1000, 0}), two, 1, []impl.Cube{cubeOf(100, 100, 1, 1000, 1000)})
	// A greater one, and one that is not allowed.
	for _, side := range []int{4, 8, 512, 3, 0, -1, 1024} {
		wantNotLocated(t, list, two, side)
	}
}

func TestLocateInOrder(t *testing.T) {
	// All places come out, though those of one part are together only in the parts.
	for _, side := range []int{2, 4, 8} {
		b := cubeOf(64, 128, side, 5000, 5100)
		wantLocated(t, fromAnywhere(70, 130, 5500), b, 1, partsBy(b, 1))
	}
	b := cubeOf(512, 0, 512, 20000, 20000)
	list := arrivalsOf([4]int{600, 300, 25000, 1000}, [4]int{900, 200, 26000, 1000})
	wantLocated(t, list, b, 64, locatedBy(list, b, 64))
	// Places that are just 500 kilometers away, while more than MaxBoxes greater Cubes are possible on the way.
	circle := arrivalsOf([4]int{0, 0, 10000, 0})
	want := []impl.Cube{}
	for _, p := range [][2]int{{0, 500}, {140, 480}, {176, 468}, {300, 400}, {400, 300}, {468, 176}, {480, 140}, {500, 0}} {
		want = append(want, cubeOf(p[0], p[1], 1, 0, 0))
	}
	wantLocated(t, circle, cubeOf(0, 0, 512, 0, 0), 1, want)
	wantNotLocated(t, circle, cubeOf(0, 0, 512, 0, 0), 2)
	wantNotLocated(t, circle, cubeOf(0, 0, 512, 0, 0), 4)
}

func TestLocateInACubeThatIsNotPossible(t *testing.T) {
	list := arrivalsOf([4]int{100, 100, 1000, 10})
	for _, b := range []impl.Cube{cubeOf(512, 512, 512, 0, impl.MaxTick), cubeOf(0, 0, 512, 1011, 2000), cubeOf(100, 100, 1, 0, 989), cubeOf(992, 992, 16, 0, 1000)} {
		for _, side := range allSides() {
			if side <= b.Side {
				wantLocated(t, list, b, side, []impl.Cube{})
			} else {
				wantNotLocated(t, list, b, side)
			}
		}
	}
}

func TestLocateInACubeWhosePartsAreNotPossible(t *testing.T) {
	// Each Arrival alone may come from the Cube, but from different parts of it.
	list := arrivalsOf([4]int{64, 128, 5000, 0}, [4]int{95, 159, 5000, 0})
	b := cubeOf(64, 128, 32, 5000, 5000)
	wantLocated(t, list, b, 32, []impl.Cube{b})
	for _, side := range []int{1, 2, 4, 8, 16} {
		wantLocated(t, list, b, side, []impl.Cube{})
	}
}

// quarterCircle returns an Arrival at 0, 0 that only places near enough are in reach of: in the ticks after 2000.
func quarterCircle(ticks int) []impl.Arrival {
	return arrivalsOf([4]int{0, 0, 2000 + ticks - 100, 100})
}

func TestLocateInUntilMaxBoxes(t *testing.T) {
	// There are 64 places with a square of at most 68, and two more with 72 or less, of which one is 6, 6.
	for _, side := range []int{16, 32, 512} {
		b := cubeOf(0, 0, side, 2000, 2000)
		want := []impl.Cube{}
		for x := range 9 {
			for y := range 9 {
				if x*x+y*y <= 68 {
					want = append(want, cubeOf(x, y, 1, 2000, 2000))
				}
			}
		}
		if len(want) != 64 {
			t.Fatal("the example is wrong", len(want))
		}
		wantLocated(t, quarterCircle(165), b, 1, want)
		wantLocated(t, quarterCircle(169), b, 1, want)
		wantNotLocated(t, quarterCircle(170), b, 1)
		wantNotLocated(t, quarterCircle(199), b, 1)
		if n := len(locatedBy(quarterCircle(170), cubeOf(0, 0, 16, 2000, 2000), 1)); n != 65 {
			t.Fatal("the example is wrong", n)
		}
	}
	for _, c := range []struct{ at, side, end, n int }{
		{64, 8, 1, 64}, {64, 16, 2, 64}, {64, 16, 1, 256}, {0, 512, 64, 64}, {0, 512, 32, 256}, {512, 512, 64, 64}, {512, 512, 32, 225}, {0, 512, 1, 9999},
		{992, 32, 1, 64}, {992, 16, 1, 64}, {992, 16, 2, 16}, {992, 16, 8, 1}, {992, 32, 16, 1}, {992, 8, 1, 64}, {960, 64, 4, 100}, {960, 64, 8, 25}, {960, 64, 32, 4},
	} {
		b := cubeOf(c.at, c.at, c.side, 2000, 900000)
		list := fromAnywhere(c.at, c.at, 500000)
		if c.n > 64 {
			wantNotLocated(t, list, b, c.end)
			continue
		}
		if want := partsBy(b, c.end); len(want) != c.n {
			t.Fatal("the example is wrong", c, len(want))
		}
		wantLocated(t, list, b, c.end, partsBy(b, c.end))
	}
	wantNotLocated(t, fromAnywhere(992, 8, 500000), cubeOf(992, 0, 16, 2000, 900000), 1)
	wantLocated(t, fromAnywhere(992, 8, 500000), cubeOf(992, 0, 16, 2000, 900000), 2, partsBy(cubeOf(992, 0, 16, 2000, 900000), 2))
}

func TestLocateInManyCubes(t *testing.T) {
	seen := map[string]int{}
	for seed := range 400 {
		raw := numbers(seed, 6, 1000)
		o := originAt(raw[0], raw[1], 50*raw[2])
		list := waveFrom(seed, 1+seed%8, o, min(999, 1<<(seed%11)))
		if seed%5 == 0 {
			o = originAt(raw[3], raw[4], o.Tick)
		}
		b := cubeAround(o, 1<<(seed/3%10), raw[5]/(1+seed%20), seed%40)
		for _, side := range allSides() {
			if side > b.Side {
				wantNotLocated(t, list, b, side)
				continue
			}
			if b.Side/side > 128 {
				continue
			}
			want := locatedBy(list, b, side)
			if len(want) > 64 {
				seen["too many"]++
				wantNotLocated(t, list, b, side)
				continue
			}
			if len(want) == 0 {
				seen["none"]++
			} else {
				seen["some"]++
			}
			wantLocated(t, list, b, side, want)
		}
	}
	if seen["too many"] < 50 || seen["none"] < 200 || seen["some"] < 1000 {
		t.Error("too few of one kind", seen)
	}
}

func TestIsConsistent(t *testing.T) {
	list := together(8, 5000)
	wantConsistent(t, list, originAt(200, 300, 5000), true)
	wantConsistent(t, list, originAt(200, 300, 4999), false)
	wantConsistent(t, list, originAt(200, 300, 5001), false)
	wantConsistent(t, list, originAt(201, 300, 5000), false)
	// It fits all but one of them, and all of the others.
	for i := range list {
		for _, change := range []int{-1, 1, 4000} {
			other := slices.Clone(list)
			other[i].Tick += change
			wantConsistent(t, other, originAt(200, 300, 5000), false)
			wantConsistent(t, slices.Delete(other, i, i+1), originAt(200, 300, 5000), true)
		}
		wantConsistent(t, list[i:i+1], originAt(200, 300, 5000), true)
	}
	// It fits none of them.
	wantConsistent(t, list, originAt(900, 900, 0), false)
	wantConsistent(t, list, originAt(0, 0, impl.MaxTick), false)
}

func TestIsConsistentAtTheLimitOfAnError(t *testing.T) {
	for _, err := range []int{0, 1, 9, 1000} {
		list := arrivalsOf([4]int{203, 304, 5100, err}, [4]int{200, 300, 5000, 1000}, [4]int{200, 310, 5200, 1000})
		wantConsistent(t, list, originAt(200, 300, 5000), true)
		wantConsistent(t, list, originAt(200, 300, 5000-err), true)
		wantConsistent(t, list, originAt(200, 300, 5000+err), true)
		wantConsistent(t, list, originAt(200, 300, 4999-err), false)
		wantConsistent(t, list, originAt(200, 300, 5001+err), false)
	}
}

func TestIsConsistentOfManyOrigins(t *testing.T) {
	seen := map[bool]int{}
	for i, list := range goodArrivalLists() {
		if len(list) == 0 {
			continue
		}
		for _, a := range list {
			for _, tick := range likelyTicks(list, a.X, a.Y) {
				o := originAt(a.X, a.Y, tick)
				want := consistentBy(list, o)
				seen[want]++
				wantConsistent(t, list, o, want)
			}
		}
		o := originAt(50*(i%20), 999-7*(i%100), 400*i)
		wave := waveFrom(i, 1+i%8, o, 300)
		for _, tick := range likelyTicks(wave, o.X, o.Y) {
			want := consistentBy(wave, originAt(o.X, o.Y, tick))
			seen[want]++
			wantConsistent(t, wave, originAt(o.X, o.Y, tick), want)
		}
	}
	if seen[false] < 500 || seen[true] < 300 {
		t.Error("too few of one kind", seen)
	}
}

func TestConsistentIn(t *testing.T) {
	list := arrivalsOf([4]int{100, 100, 1000, 10}, [4]int{200, 100, 3000, 10}, [4]int{100, 200, 3000, 10})
	wantPlaces(t, list, cubeOf(96, 96, 8, 990, 1010), 3)
	// At the tick From alone, at To alone, and only outside of both.
	for _, c := range [][2]int{{999, 0}, {1000, 1}, {1001, 1}, {1010, 1}, {1011, 0}, {1019, 0}, {1020, 4}, {1030, 4}, {1031, 0}, {0, 0}, {990, 0}, {5000, 0}} {
		wantPlaces(t, arrivalsOf([4]int{5, 6, c[0], 0}), cubeOf(4, 4, 4, 1000, 1010), c[1])
	}
	// Earlier ticks fit where a wave takes a whole number of them: at the 7 places with its X or its Y.
	wantPlaces(t, arrivalsOf([4]int{5, 6, 999, 0}), cubeOf(4, 4, 4, 0, 999), 7)
	wantPlaces(t, arrivalsOf([4]int{5, 6, 1000, 1000}), cubeOf(4, 4, 4, 2001, 3000), 0)
	wantPlaces(t, arrivalsOf([4]int{5, 6, 1000, 1000}), cubeOf(4, 4, 4, 2000, 3000), 1)
	// Each Arrival fits some Origin at the place, but none fits both.
	one := cubeOf(5, 6, 1, 0, 5000)
	wantPlaces(t, arrivalsOf([4]int{5, 6, 1000, 5}, [4]int{5, 6, 1011, 5}), one, 0)
	wantPlaces(t, arrivalsOf([4]int{5, 6, 1000, 5}, [4]int{5, 6, 1010, 5}), one, 1)
	wantPlaces(t, arrivalsOf([4]int{5, 6, 1000, 5}, [4]int{5, 6, 1010, 5}), cubeOf(5, 6, 1, 1006, 5000), 0)
	wantPlaces(t, arrivalsOf([4]int{5, 6, 1000, 5}, [4]int{5, 6, 1010, 5}), cubeOf(5, 6, 1, 0, 1004), 0)
	wantPlaces(t, arrivalsOf([4]int{5, 6, 1000, 5}, [4]int{5, 6, 1000, 9}, [4]int{5, 6, 2000, 0}), one, 0)
}

func TestConsistentInCubesOfEachSide(t *testing.T) {
	for _, side := range allSides() {
		for _, at := range []int{0, 512, lastCorner(side)} {
			b := cubeOf(at, at, side, 2000, 900000)
			if side > 16 {
				wantNoPlaces(t, fromAnywhere(500, 500, 500000), b)
				wantNoPlaces(t, arrivalsOf([4]int{500, 500, 0, 0}), b)
				continue
			}
			inside := min(1000, at+side) - at
			wantPlaces(t, fromAnywhere(500, 500, 500000), b, inside*inside)
			wantPlaces(t, arrivalsOf([4]int{500, 500, 0, 0}), b, 0)
		}
	}
	// At the edge of the map, no Origin is beyond it.
	wantPlaces(t, fromAnywhere(500, 500, 500000), cubeOf(992, 0, 16, 2000, 900000), 128)
	wantPlaces(t, fromAnywhere(500, 500, 500000), cubeOf(0, 992, 16, 2000, 900000), 128)
	wantPlaces(t, fromAnywhere(500, 500, 500000), cubeOf(992, 992, 16, 2000, 900000), 64)
	wantPlaces(t, arrivalsOf([4]int{999, 999, 2020, 0}), cubeOf(992, 992, 16, 2000, 2000), 2)
}

func TestConsistentInManyCubes(t *testing.T) {
	seen := map[string]int{}
	for seed := range 300 {
		raw := numbers(seed+5000, 4, 1000)
		o := originAt(raw[0], raw[1], 60*raw[2])
		if seed%4 == 0 {
			o.X = 999 - seed%9
		}
		list := waveFrom(seed, 1+seed%8, o, 1<<(seed%8))
		if seed%5 == 0 {
			o.Tick += raw[3] / 8
		}
		b := cubeAround(o, 1<<(seed%5), raw[3]/50, seed%25)
		want := placesOf(consistentOrigins(list, b))
		switch {
		case want == 0:
			seen["none"]++
		case want < b.Side*b.Side:
			seen["some"]++
		}
		wantPlaces(t, list, b, want)
	}
	if seen["none"] < 30 || seen["some"] < 60 {
		t.Error("too few of one kind", seen)
	}
}

func TestHolderOf(t *testing.T) {
	b := ordinaryCube()
	// On each edge, and just beyond it.
	for _, o := range []impl.Origin{originAt(64, 140, 5050), originAt(95, 140, 5050), originAt(70, 128, 5050), originAt(70, 159, 5050), originAt(70, 140, 5000), originAt(70, 140, 5100), originAt(64, 128, 5000), originAt(95, 159, 5100)} {
		wantHolder(t, []impl.Cube{b}, o, 0)
		wantHolder(t, []impl.Cube{cubeOf(0, 0, 1, 0, 0), b}, o, 1)
	}
	for _, o := range []impl.Origin{originAt(63, 140, 5050), originAt(96, 140, 5050), originAt(70, 127, 5050), originAt(70, 160, 5050), originAt(70, 140, 4999), originAt(70, 140, 5101), originAt(0, 0, 0), originAt(140, 70, 5050)} {
		wantNoHolder(t, []impl.Cube{b}, o)
		wantHolder(t, []impl.Cube{b, cubeOf(o.X, o.Y, 1, o.Tick, o.Tick)}, o, 1)
	}
	// In two Cubes, and in none.
	two := []impl.Cube{cubeOf(64, 128, 32, 0, 4999), cubeOf(64, 128, 16, 5000, 5100), b, cubeOf(0, 0, 512, 0, impl.MaxTick)}
	wantHolder(t, two, originAt(70, 130, 5050), 1)
	wantHolder(t, two, originAt(90, 130, 5050), 2)
	wantHolder(t, two, originAt(90, 130, 4000), 0)
	wantHolder(t, two, originAt(90, 130, 6000), 3)
	wantNoHolder(t, two, originAt(512, 130, 5050))
	wantNoHolder(t, nil, originAt(70, 130, 5050))
	wantNoHolder(t, []impl.Cube{}, originAt(0, 0, 0))
	// At the edge of the map.
	wantHolder(t, []impl.Cube{cubeOf(992, 992, 32, 0, 0)}, originAt(999, 999, 0), 0)
	wantHolder(t, []impl.Cube{cubeOf(999, 999, 1, impl.MaxTick, impl.MaxTick)}, originAt(999, 999, impl.MaxTick), 0)
}

func TestHolderOfAmongManyCubes(t *testing.T) {
	cubes := []impl.Cube{}
	for n := range 70 {
		cubes = append(cubes, cubeOf(n, 2*n, 1, 100, 200))
	}
	for n := range 64 {
		wantHolder(t, cubes[:n+1], originAt(n, 2*n, 150), n)
		wantHolder(t, cubes[:64], originAt(n, 2*n, 150), n)
		wantNoHolder(t, cubes[:n], originAt(n, 2*n, 150))
	}
	for n := 65; n <= 70; n++ {
		wantNoHolder(t, cubes[:n], originAt(0, 0, 150))
		wantNoHolder(t, cubes[:n], originAt(n-1, 2*n-2, 150))
	}
}

func TestHolderOfWithAnInvalidCubeAmongThem(t *testing.T) {
	for _, bad := range badCubes() {
		o := originAt(70, 140, 5050)
		for _, cubes := range [][]impl.Cube{{bad}, {bad, ordinaryCube()}, {ordinaryCube(), bad}, {ordinaryCube(), ordinaryCube(), bad, ordinaryCube()}} {
			wantNoHolder(t, cubes, o)
			wantNoHolder(t, cubes, originAt(0, 0, 5000))
		}
	}
}

// wantAllHeld checks that a Cube of the list has each Origin, and that it is the one that HolderOf tells.
func wantAllHeld(t *testing.T, cubes []impl.Cube, origins []impl.Origin) {
	t.Helper()
	for _, o := range origins {
		i, ok := impl.HolderOf(cubes, o)
		if !ok || i < 0 || i >= len(cubes) || !heldBy(cubes[i], o) {
			t.Errorf("HolderOf(%v, %v) = %d, %v", cubes, o, i, ok)
		}
	}
}

// Promise 12.
func TestEachConsistentOriginIsInOneOfTheCubes(t *testing.T) {
	seen := map[string]int{}
	for seed := range 300 {
		raw := numbers(seed+9000, 4, 1000)
		o := originAt(raw[0], raw[1], 60*raw[2])
		if seed%4 == 0 {
			o.Y = 999 - seed%9
		}
		list := waveFrom(seed+300, 1+seed%8, o, 1<<(seed%9))
		b := cubeAround(o, 1<<(seed%6), raw[3]/200, seed%7)
		origins := consistentOrigins(list, b)
		for side := 1; side <= b.Side; side *= 2 {
			cubes, ok := impl.LocateIn(list, b, side)
			if !ok {
				seen["too many"]++
				continue
			}
			seen["located"]++
			seen["origins"] += len(origins)
			wantAllHeld(t, cubes, origins)
			if none, ok := impl.ProvesNone(list, b, side); !ok || none && len(origins) > 0 {
				t.Errorf("ProvesNone(%v, %v, %d) = %v, %v with %d Origins", list, b, side, none, ok, len(origins))
			}
		}
	}
	if seen["located"] < 500 || seen["origins"] < 5000 {
		t.Error("too few of one kind", seen)
	}
}

// Promise 12, for the greatest Cubes: they have too many Origins to try each one, so these are those near the source
// of the wave, at the ticks at which they begin or cease to be consistent.
func TestConsistentOriginsOfAGreatCubeAreInOneOfTheCubes(t *testing.T) {
	held := 0
	for seed := range 80 {
		raw := numbers(seed+7000, 3, 1000)
		o := originAt(raw[0], raw[1], 60*raw[2])
		list := waveFrom(seed+40, 3+seed%6, o, 1<<(seed%7))
		b := cubeAround(o, 512, 2000, 2000)
		origins := []impl.Origin{}
		for x := max(b.West, o.X-12); x <= min(999, b.West+511, o.X+12); x++ {
			for y := max(b.South, o.Y-12); y <= min(999, b.South+511, o.Y+12); y++ {
				for _, tick := range likelyTicks(list, x, y) {
					if at := originAt(x, y, tick); heldBy(b, at) && consistentBy(list, at) {
						origins = append(origins, at)
					}
				}
			}
		}
		for side := 1; side <= 512; side *= 2 {
			if cubes, ok := impl.LocateIn(list, b, side); ok {
				held += len(origins)
				wantAllHeld(t, cubes, origins)
			}
		}
	}
	if held < 2000 {
		t.Error("too few Origins", held)
	}
}

// callLocateFunctions calls each function that takes a list, and changes the lists that come out.
func callLocateFunctions(list []impl.Arrival, cubes []impl.Cube, b impl.Cube, o impl.Origin) {
	impl.IsPossible(list, b)
	impl.IsConsistent(list, o)
	impl.ConsistentIn(list, b)
	impl.HolderOf(cubes, o)
	parts, _ := impl.SplitCube(b)
	for _, side := range allSides() {
		located, _ := impl.LocateIn(list, b, side)
		impl.ProvesNone(list, b, side)
		for _, result := range [][]impl.Cube{parts, located} {
			whole := result[:cap(result)]
			for i := range whole {
				whole[i] = cubeOf(-1, -1, -1, -1, -1)
			}
		}
	}
}

// withCubesBehind returns Cubes with room behind them that others follow in, and all of these.
func withCubesBehind(list []impl.Cube) ([]impl.Cube, []impl.Cube) {
	backing := append(slices.Clone(list), slices.Repeat([]impl.Cube{cubeOf(0, 0, 512, 0, impl.MaxTick)}, 70)...)
	return backing[:len(list)], backing
}

func TestLocateFunctionsKeepTheirArguments(t *testing.T) {
	for i, list := range slices.Concat(goodArrivalLists(), badArrivalLists()[:20]) {
		arrivals, behind := withArrivalsBehind(list)
		wantArrivals := slices.Clone(behind)
		for _, given := range [][]impl.Cube{nil, goodCubes()[:5], goodCubes(), badCubes()[:5]} {
			cubes, behindCubes := withCubesBehind(given)
			wantCubes := slices.Clone(behindCubes)
			callLocateFunctions(arrivals, cubes, goodCubes()[i%50], originAt(100, 100, 1000))
			callLocateFunctions(arrivals, cubes, ordinaryCube(), originAt(999, 999, 0))
			if !slices.Equal(behind, wantArrivals) || !slices.Equal(behindCubes, wantCubes) {
				t.Fatalf("an argument changed: %v, %v; want %v, %v", behind, behindCubes, wantArrivals, wantCubes)
			}
		}
	}
}

func TestLocateFunctionsReadNothingBehindTheLength(t *testing.T) {
	b := cubeOf(200, 296, 8, 5000, 5000)
	whole := append(together(4, 5000), arrivalAt(50, 0, 0, 0, 0), arrivalAt(20, 0, 0, 0, 0))
	for n := 1; n <= 4; n++ {
		list := whole[:n]
		wantPossible(t, list, b, true)
		wantConsistent(t, list, originAt(200, 300, 5000), true)
		wantPlaces(t, list, b, 1)
		wantLocated(t, list, b, 1, []impl.Cube{cubeOf(200, 300, 1, 5000, 5000)})
	}
	wantPossible(t, whole[:5], b, false)
	wantConsistent(t, whole[:5], originAt(200, 300, 5000), false)
	wantPlaces(t, whole[:5], b, 0)
	wantNoPlaces(t, whole, b)
	cubes := []impl.Cube{ordinaryCube(), b, {}}
	wantHolder(t, cubes[:2], originAt(200, 300, 5000), 1)
	wantNoHolder(t, cubes[:1], originAt(200, 300, 5000))
	wantNoHolder(t, cubes, originAt(200, 300, 5000))
}

func TestLocateResultsAreOfTheirOwn(t *testing.T) {
	b := cubeOf(0, 0, 16, 2000, 2000)
	for range 3 {
		wantParts(t, b, partsBy(b, 8))
		wantLocated(t, quarterCircle(169), b, 1, locatedBy(quarterCircle(169), b, 1))
		wantLocated(t, quarterCircle(169), b, 16, []impl.Cube{b})
		wantLocated(t, quarterCircle(199), b, 8, partsBy(b, 8)[:3])
		callLocateFunctions(quarterCircle(169), []impl.Cube{b}, b, originAt(0, 0, 2000))
	}
}
