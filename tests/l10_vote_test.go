package tests

import (
	"cmp"
	"math"
	"slices"
	"testing"

	"loop.example/g01017/impl"
)

func arrivalAt(id int, x int, y int, tick int, err int) impl.Arrival {
	return impl.Arrival{Id: id, X: x, Y: y, Tick: tick, Error: err}
}

func originAt(x int, y int, tick int) impl.Origin {
	return impl.Origin{X: x, Y: y, Tick: tick}
}

// arrivalsOf returns Arrivals with the Ids 3, 6, 9 .. and an X, Y, Tick and Error each.
func arrivalsOf(rows ...[4]int) []impl.Arrival {
	list := []impl.Arrival{}
	for i, r := range rows {
		list = append(list, arrivalAt(3*i+3, r[0], r[1], r[2], r[3]))
	}
	return list
}

// ordinaryArrivals returns four Arrivals of a wave from 100, 100 at 1000, and one that came from elsewhere.
func ordinaryArrivals() []impl.Arrival {
	return arrivalsOf([4]int{100, 100, 1000, 0}, [4]int{103, 104, 1100, 0}, [4]int{300, 100, 5010, 10}, [4]int{900, 900, 90000, 20}, [4]int{100, 101, 1019, 1})
}

// farApart returns n Arrivals at places of a grid for the step 100, of waves that cannot be one.
func farApart(n int) []impl.Arrival {
	rows := [][4]int{}
	for i := range n {
		rows = append(rows, [4]int{100 * (i + 1), 100 * (i + 1), 100000 * (i + 1), 0})
	}
	return arrivalsOf(rows...)
}

// together returns n Arrivals of one wave from the place 200, 300 at a tick.
func together(n int, tick int) []impl.Arrival {
	rows := [][4]int{}
	for i := range n {
		rows = append(rows, [4]int{200 + 3*i, 300 + 4*i, tick + 100*i, 0})
	}
	return arrivalsOf(rows...)
}

// scatteredArrivals returns n Arrivals, most of them of one of two waves from places of a grid for the step 100.
func scatteredArrivals(seed int, n int) []impl.Arrival {
	list := []impl.Arrival{}
	// The upper digits of the numbers look more scattered than the lower ones.
	raw := numbers(seed, 6*n+6, 1000)
	for i := range n {
		r := raw[6*i+6 : 6*i+12]
		event := raw[:3]
		if r[0] < 400 {
			event = raw[3:6]
		}
		x, y := r[1], r[2]
		far := math.Hypot(float64(event[0]/100*100-x), float64(event[1]/100*100-y))
		a := arrivalAt(7*i+1+seed%7, x, y, 30*event[2]+int(20*far), r[3]/20)
		if r[4] < 150 {
			a.Tick = 50 * r[5]
		}
		if r[4] > 900 {
			a.Error = r[3]
		}
		list = append(list, a)
	}
	return list
}

func goodArrivals() []impl.Arrival {
	return []impl.Arrival{
		arrivalAt(12, 30, 40, 700, 5), arrivalAt(1, 30, 40, 700, 5), arrivalAt(99, 30, 40, 700, 5),
		arrivalAt(12, 0, 40, 700, 5), arrivalAt(12, 999, 40, 700, 5), arrivalAt(12, 30, 0, 700, 5), arrivalAt(12, 30, 999, 700, 5),
		arrivalAt(12, 30, 40, 0, 5), arrivalAt(12, 30, 40, impl.MaxTick, 5), arrivalAt(12, 30, 40, 700, 0), arrivalAt(12, 30, 40, 700, 1000),
		arrivalAt(1, 0, 0, 0, 0), arrivalAt(99, 999, 999, impl.MaxTick, 1000),
	}
}

// badArrivals returns Arrivals that are not valid, each for one reason.
func badArrivals() []impl.Arrival {
	bad := []impl.Arrival{{}}
	for _, n := range beyond(1, 99) {
		bad = append(bad, arrivalAt(n, 30, 40, 700, 5))
	}
	for _, n := range beyond(0, 999) {
		bad = append(bad, arrivalAt(12, n, 40, 700, 5), arrivalAt(12, 30, n, 700, 5))
	}
	for _, n := range beyond(0, impl.MaxTick) {
		bad = append(bad, arrivalAt(12, 30, 40, n, 5))
	}
	for _, n := range beyond(0, 1000) {
		bad = append(bad, arrivalAt(12, 30, 40, 700, n))
	}
	return bad
}

func goodOrigins() []impl.Origin {
	return []impl.Origin{{}, originAt(30, 40, 500), originAt(999, 40, 500), originAt(30, 999, 500), originAt(30, 40, impl.MaxTick), originAt(999, 999, impl.MaxTick)}
}

// badOrigins returns Origins that are not valid, each for one reason.
func badOrigins() []impl.Origin {
	bad := []impl.Origin{}
	for _, p := range badPlaces() {
		bad = append(bad, originAt(p[0], p[1], 500))
	}
	for _, n := range beyond(0, impl.MaxTick) {
		bad = append(bad, originAt(30, 40, n))
	}
	return bad
}

// badPlaces returns pairs that are no places, each for one reason.
func badPlaces() [][2]int {
	bad := [][2]int{}
	for _, n := range beyond(0, 999) {
		bad = append(bad, [2]int{n, 40}, [2]int{30, n})
	}
	return bad
}

func goodArrivalLists() [][]impl.Arrival {
	good := [][]impl.Arrival{nil, {}, ordinaryArrivals(), farApart(8), together(8, 5000), together(1, 0), goodArrivals()[:1], slices.Clone(goodArrivals()[11:])}
	for seed := range 60 {
		good = append(good, scatteredArrivals(seed, 1+seed%impl.MaxArrivals), scatteredArrivals(seed+100, impl.MaxArrivals))
	}
	return good
}

// badArrivalLists returns lists that are no Arrivals, each for one reason.
func badArrivalLists() [][]impl.Arrival {
	bad := [][]impl.Arrival{together(9, 5000), farApart(9), together(9, 0), together(33, 5000)}
	for _, a := range badArrivals() {
		bad = append(bad, []impl.Arrival{a}, []impl.Arrival{arrivalAt(1, 30, 40, 700, 5), a}, []impl.Arrival{a, arrivalAt(99, 30, 40, 700, 5)})
	}
	for _, ids := range [][]int{{5, 5}, {5, 4}, {1, 2, 2}, {1, 1, 2}, {1, 3, 2}, {3, 1, 2}, {99, 1}, {1, 2, 3, 4, 5, 6, 7, 7}, {1, 2, 3, 4, 5, 6, 8, 7}} {
		list := []impl.Arrival{}
		for i, id := range ids {
			list = append(list, arrivalAt(id, 10*i, 40, 700, 5))
		}
		bad = append(bad, list)
	}
	return bad
}

// fitsBy compares squares, with the limits on both sides of the wave.
func fitsBy(a impl.Arrival, o impl.Origin) bool {
	way := 400 * ((a.X-o.X)*(a.X-o.X) + (a.Y-o.Y)*(a.Y-o.Y))
	early, late := a.Tick-a.Error-o.Tick, a.Tick+a.Error-o.Tick
	return (early < 0 || way >= early*early) && late >= 0 && way <= late*late
}

func votersBy(list []impl.Arrival, o impl.Origin) []int {
	ids := []int{}
	for _, a := range list {
		if fitsBy(a, o) {
			ids = append(ids, a.Id)
		}
	}
	return ids
}

// likelyTicks returns the ticks near which Origins at a place begin or cease to fit one of the Arrivals.
func likelyTicks(list []impl.Arrival, x int, y int) []int {
	ticks := []int{0, impl.MaxTick}
	for _, a := range list {
		way := int(20 * math.Hypot(float64(a.X-x), float64(a.Y-y)))
		for near := -2; near <= 2; near++ {
			for _, tick := range []int{a.Tick - a.Error - way + near, a.Tick + a.Error - way + near} {
				if 0 <= tick && tick <= impl.MaxTick {
					ticks = append(ticks, tick)
				}
			}
		}
	}
	return ticks
}

// bestBy returns the one of some Origins with the most votes, the first one in the order of X, Y and Tick, and its votes.
func bestBy(list []impl.Arrival, origins []impl.Origin) (impl.Origin, int) {
	best, most := impl.Origin{}, 0
	for _, o := range origins {
		votes := len(votersBy(list, o))
		earlier := cmp.Or(cmp.Compare(o.X, best.X), cmp.Compare(o.Y, best.Y), cmp.Compare(o.Tick, best.Tick)) < 0
		if votes > most || votes == most && votes > 0 && earlier {
			best, most = o, votes
		}
	}
	return best, most
}

// gridOrigins returns all Origins on a grid at likely ticks, the last places first.
func gridOrigins(list []impl.Arrival, step int) []impl.Origin {
	origins := []impl.Origin{}
	for x := 999; x >= 0; x-- {
		for y := 999; y >= 0; y-- {
			if x%step != 0 || y%step != 0 {
				continue
			}
			for _, tick := range likelyTicks(list, x, y) {
				origins = append(origins, originAt(x, y, tick))
			}
		}
	}
	return origins
}

func wantFit(t *testing.T, a impl.Arrival, o impl.Origin, want bool) {
	t.Helper()
	if fits, ok := impl.DoesFit(a, o); !ok || fits != want {
		t.Errorf("DoesFit(%v, %v) = %v, %v; want %v, true", a, o, fits, ok, want)
	}
}

func wantNoFit(t *testing.T, a impl.Arrival, o impl.Origin) {
	t.Helper()
	if fits, ok := impl.DoesFit(a, o); ok || fits {
		t.Errorf("DoesFit(%v, %v) = %v, %v; want false, false", a, o, fits, ok)
	}
}

// wantTicks checks TicksThatFit, and DoesFit at both ends and outside of them.
func wantTicks(t *testing.T, a impl.Arrival, x int, y int, from int, to int) {
	t.Helper()
	if low, high, ok := impl.TicksThatFit(a, x, y); !ok || low != from || high != to {
		t.Errorf("TicksThatFit(%v, %d, %d) = %d, %d, %v; want %d, %d, true", a, x, y, low, high, ok, from, to)
	}
	wantFit(t, a, originAt(x, y, from), true)
	wantFit(t, a, originAt(x, y, to), true)
	if from > 0 {
		wantFit(t, a, originAt(x, y, from-1), false)
	}
	if to < impl.MaxTick {
		wantFit(t, a, originAt(x, y, to+1), false)
	}
}

func wantNoTicks(t *testing.T, a impl.Arrival, x int, y int) {
	t.Helper()
	low, high, ok := impl.TicksThatFit(a, x, y)
	wantNoFraction(t, "TicksThatFit", low, high, ok)
}

// wantVoters checks VotersFor, VotesFor, WithoutVoters and DoesFit.
func wantVoters(t *testing.T, list []impl.Arrival, o impl.Origin, want ...int) {
	t.Helper()
	ids, ok := impl.VotersFor(list, o)
	wantNumbers(t, "VotersFor", ids, ok, want)
	if n, ok := impl.VotesFor(list, o); !ok || n != len(want) {
		t.Errorf("VotesFor(%v, %v) = %d, %v; want %d, true", list, o, n, ok, len(want))
	}
	rest := []impl.Arrival{}
	for _, a := range list {
		wantFit(t, a, o, slices.Contains(want, a.Id))
		if !slices.Contains(want, a.Id) {
			rest = append(rest, a)
		}
	}
	if got, ok := impl.WithoutVoters(list, o); !ok || !slices.Equal(got, rest) {
		t.Errorf("WithoutVoters(%v, %v) = %v, %v; want %v, true", list, o, got, ok, rest)
	}
}

// wantNobody checks that VotersFor, VotesFor and WithoutVoters fail.
func wantNobody(t *testing.T, list []impl.Arrival, o impl.Origin) {
	t.Helper()
	ids, ok := impl.VotersFor(list, o)
	wantNoNumbers(t, "VotersFor", ids, ok)
	if n, ok := impl.VotesFor(list, o); ok || n != 0 {
		t.Errorf("VotesFor(%v, %v) = %d, %v; want 0, false", list, o, n, ok)
	}
	if rest, ok := impl.WithoutVoters(list, o); ok || len(rest) != 0 {
		t.Errorf("WithoutVoters(%v, %v) = %v, %v; want none, false", list, o, rest, ok)
	}
}

func wantMostAt(t *testing.T, list []impl.Arrival, x int, y int, votes int, tick int) {
	t.Helper()
	if n, first, ok := impl.MostVotesAt(list, x, y); !ok || n != votes || first != tick {
		t.Errorf("MostVotesAt(%v, %d, %d) = %d, %d, %v; want %d, %d, true", list, x, y, n, first, ok, votes, tick)
	}
}

func wantNoVotesAt(t *testing.T, list []impl.Arrival, x int, y int) {
	t.Helper()
	n, tick, ok := impl.MostVotesAt(list, x, y)
	wantNoFraction(t, "MostVotesAt", n, tick, ok)
}

func wantBest(t *testing.T, list []impl.Arrival, step int, want impl.Origin, votes int) {
	t.Helper()
	if o, n, ok := impl.BestOnGrid(list, step); !ok || o != want || n != votes {
		t.Errorf("BestOnGrid(%v, %d) = %v, %d, %v; want %v, %d, true", list, step, o, n, ok, want, votes)
	}
}

func wantNoBest(t *testing.T, list []impl.Arrival, step int) {
	t.Helper()
	if o, n, ok := impl.BestOnGrid(list, step); ok || n != 0 || o != (impl.Origin{}) {
		t.Errorf("BestOnGrid(%v, %d) = %v, %d, %v; want zero values", list, step, o, n, ok)
	}
}

func wantEvents(t *testing.T, list []impl.Arrival, step int, least int, want ...impl.Origin) {
	t.Helper()
	if got, ok := impl.EventsFound(list, step, least); !ok || !slices.Equal(got, want) {
		t.Errorf("EventsFound(%v, %d, %d) = %v, %v; want %v, true", list, step, least, got, ok, want)
	}
}

// wantEventsFail checks that EventsFound fails, which is not the same as finding none.
func wantEventsFail(t *testing.T, list []impl.Arrival, step int, least int) {
	t.Helper()
	if got, ok := impl.EventsFound(list, step, least); ok || len(got) != 0 {
		t.Errorf("EventsFound(%v, %d, %d) = %v, %v; want none, false", list, step, least, got, ok)
	}
}

func TestAreArrivals(t *testing.T) {
	if impl.MaxArrivals != 8 {
		t.Error("limit", impl.MaxArrivals)
	}
	for _, a := range goodArrivals() {
		if !impl.AreArrivals([]impl.Arrival{a}) {
			t.Errorf("AreArrivals of %v = false", a)
		}
	}
	for _, list := range goodArrivalLists() {
		if !impl.AreArrivals(list) {
			t.Errorf("AreArrivals(%v) = false", list)
		}
	}
	for _, list := range badArrivalLists() {
		if impl.AreArrivals(list) {
			t.Errorf("AreArrivals(%v) = true", list)
		}
	}
	for n := range 20 {
		if impl.AreArrivals(together(n, 500)) != (n <= 8) || impl.AreArrivals(farApart(n)) != (n <= 8) {
			t.Errorf("AreArrivals of %d Arrivals = %v", n, n > 8)
		}
	}
	// Only the Ids have to differ, and to ascend.
	if !impl.AreArrivals([]impl.Arrival{arrivalAt(1, 30, 40, 700, 5), arrivalAt(2, 30, 40, 700, 5), arrivalAt(99, 0, 0, 0, 0)}) {
		t.Error("AreArrivals of Arrivals at the same place and tick = false")
	}
}

func TestVoteFunctionsFailForInvalidArrivals(t *testing.T) {
	for _, a := range badArrivals() {
		for _, o := range goodOrigins() {
			wantNoFit(t, a, o)
			wantNoTicks(t, a, o.X, o.Y)
		}
		wantNoFit(t, a, originAt(30, 40, 700))
		wantNoTicks(t, a, 30, 40)
	}
	for _, list := range badArrivalLists() {
		for _, o := range append(goodOrigins(), originAt(200, 300, 5000), originAt(30, 40, 700)) {
			wantNobody(t, list, o)
			wantNoVotesAt(t, list, o.X, o.Y)
		}
		for _, step := range []int{50, 100, 500} {
			wantNoBest(t, list, step)
			wantEventsFail(t, list, step, 1)
			wantEventsFail(t, list, step, 8)
		}
	}
}

func TestVoteFunctionsFailForInvalidOrigins(t *testing.T) {
	for _, o := range badOrigins() {
		for _, a := range goodArrivals() {
			wantNoFit(t, a, o)
		}
		for _, list := range goodArrivalLists()[:8] {
			wantNobody(t, list, o)
		}
	}
	for _, p := range badPlaces() {
		for _, a := range goodArrivals() {
			wantNoTicks(t, a, p[0], p[1])
		}
		for _, list := range goodArrivalLists()[:8] {
			wantNoVotesAt(t, list, p[0], p[1])
		}
	}
}

func TestVoteFunctionsFailForInvalidNumbers(t *testing.T) {
	for _, list := range [][]impl.Arrival{nil, {}, ordinaryArrivals(), farApart(8), together(8, 5000)} {
		for _, step := range append(beyond(50, 500), 0, -50, 1, 1000) {
			wantNoBest(t, list, step)
			wantEventsFail(t, list, step, 1)
			wantEventsFail(t, list, step, 8)
		}
		for _, least := range append(beyond(1, 8), -8) {
			for _, step := range []int{50, 100, 500} {
				wantEventsFail(t, list, step, least)
			}
		}
	}
}

func TestVoteFunctionsAtTheLimits(t *testing.T) {
	for _, a := range goodArrivals() {
		for _, o := range goodOrigins() {
			wantFit(t, a, o, fitsBy(a, o))
		}
	}
	wantFit(t, arrivalAt(1, 0, 0, 0, 0), originAt(0, 0, 0), true)
	wantFit(t, arrivalAt(99, 999, 999, impl.MaxTick, 1000), originAt(999, 999, impl.MaxTick), true)
	wantFit(t, arrivalAt(99, 999, 999, impl.MaxTick, 0), originAt(999, 999, impl.MaxTick), true)
	wantFit(t, arrivalAt(99, 999, 999, impl.MaxTick, 0), originAt(999, 999, impl.MaxTick-1), false)
	// The longest way takes 28255.98 ticks.
	wantTicks(t, arrivalAt(1, 0, 0, 28256, 1), 999, 999, 0, 1)
	wantNoTicks(t, arrivalAt(1, 0, 0, 28256, 0), 999, 999)
}

func TestDoesFitJustAtTheError(t *testing.T) {
	// Ways that take a whole number of ticks.
	for _, way := range [][3]int{{3, 4, 100}, {-4, 3, 100}, {0, 7, 140}, {-7, 0, 140}, {60, -80, 2000}, {-300, -400, 10000}, {0, 1, 20}, {0, 0, 0}, {20, 21, 580}} {
		for _, err := range []int{0, 1, 2, 7, 19, 20, 999, 1000} {
			a := arrivalAt(5, 400, 500, 20000, err)
			x, y, middle := 400+way[0], 500+way[1], 20000-way[2]
			wantFit(t, a, originAt(x, y, middle), true)
			wantFit(t, a, originAt(x, y, middle-err), true)
			wantFit(t, a, originAt(x, y, middle+err), true)
			wantFit(t, a, originAt(x, y, middle-err-1), false)
			wantFit(t, a, originAt(x, y, middle+err+1), false)
			wantTicks(t, a, x, y, middle-err, middle+err)
		}
	}
}

func TestDoesFitBetweenTwoTicks(t *testing.T) {
	// Ways that take some ticks and a part of one, many of them just a small part more or less than a whole number.
	for _, way := range [][3]int{{1, 1, 28}, {-1, 1, 28}, {1, 2, 44}, {5, -5, 141}, {1, 10, 200}, {2, 40, 800}, {160, 4, 3200}, {9, 490, 9801}, {1, 499, 9980}, {-400, 1, 8000}, {-399, -499, 12778}} {
		for _, err := range []int{0, 1, 2, 7, 1000} {
			a := arrivalAt(5, 400, 500, 20000, err)
			x, y, middle := 400+way[0], 500+way[1], 20000-way[2]
			// From the middle a wave comes too late by a part of a tick, and from one before it too early by the rest.
			wantFit(t, a, originAt(x, y, middle), err > 0)
			wantFit(t, a, originAt(x, y, middle-1), err > 0)
			wantFit(t, a, originAt(x, y, middle-err), err > 0)
			wantFit(t, a, originAt(x, y, middle-err-1), false)
			wantFit(t, a, originAt(x, y, middle+err), false)
			if err == 0 {
				wantNoTicks(t, a, x, y)
			} else {
				wantTicks(t, a, x, y, middle-err, middle+err-1)
			}
		}
	}
}

func TestDoesFitOverTheLongestWays(t *testing.T) {
	for _, c := range [][3]int{{999, 999, 28255}, {999, 998, 28241}, {810, 9, 16200}, {999, 1, 19980}} {
		wantFit(t, arrivalAt(1, 0, 0, 50000, 0), originAt(c[0], c[1], 50000-c[2]), false)
		wantFit(t, arrivalAt(1, 0, 0, 50000, 0), originAt(c[0], c[1], 49999-c[2]), false)
		wantTicks(t, arrivalAt(1, 0, 0, 50000, 1), c[0], c[1], 49999-c[2], 50000-c[2])
		wantTicks(t, arrivalAt(1, c[0], c[1], 50000, 1000), 0, 0, 49000-c[2], 50999-c[2])
	}
	wantTicks(t, arrivalAt(1, 0, 999, 50000, 0), 999, 999, 30020, 30020)
	wantTicks(t, arrivalAt(1, 999, 0, 50000, 0), 999, 999, 30020, 30020)
}

func TestDoesFitAtThePlaceItself(t *testing.T) {
	for _, err := range []int{0, 1, 10, 1000} {
		a := arrivalAt(5, 17, 18, 5000, err)
		for _, tick := range []int{3999, 4000, 4001, 4989, 4990, 4991, 4998, 4999, 5000, 5001, 5002, 5009, 5010, 5011, 5999, 6000, 6001} {
			wantFit(t, a, originAt(17, 18, tick), max(tick-5000, 5000-tick) <= err)
		}
		wantTicks(t, a, 17, 18, 5000-err, 5000+err)
		wantMostAt(t, []impl.Arrival{a}, 17, 18, 1, 5000-err)
	}
}

func TestAnOriginAfterTheArrivalDoesNotFit(t *testing.T) {
	// A negative time has a great square, too.
	a := arrivalAt(5, 400, 500, 2000, 10)
	wantFit(t, a, originAt(403, 504, 1900), true)
	for _, tick := range []int{1911, 2000, 2010, 2011, 2090, 2100, 2110, 2200, 50000, impl.MaxTick} {
		wantFit(t, a, originAt(403, 504, tick), false)
	}
	// Nor does one from which the wave comes much too early.
	for _, tick := range []int{0, 1, 1000, 1889} {
		wantFit(t, a, originAt(403, 504, tick), false)
	}
	// The early limit may lie before the Origin while the late one does not.
	wantFit(t, arrivalAt(5, 400, 500, 2000, 1000), originAt(400, 510, 2500), true)
	wantFit(t, arrivalAt(5, 400, 500, 2000, 1000), originAt(400, 525, 2500), true)
	wantFit(t, arrivalAt(5, 400, 500, 2000, 1000), originAt(400, 526, 2500), false)
}

func TestTicksThatFit(t *testing.T) {
	a := arrivalAt(2, 200, 100, 3000, 5)
	wantTicks(t, a, 100, 100, 995, 1005)
	wantTicks(t, a, 200, 100, 2995, 3005)
	wantTicks(t, a, 203, 104, 2895, 2905)
	wantTicks(t, a, 201, 101, 2967, 2976)
	wantNoTicks(t, arrivalAt(1, 100, 100, 1000, 0), 101, 101)
	wantTicks(t, arrivalAt(1, 100, 100, 1000, 0), 103, 104, 900, 900)
	// The Id plays no part.
	wantTicks(t, arrivalAt(99, 200, 100, 3000, 5), 100, 100, 995, 1005)
}

func TestTicksThatFitAtTheEndsOfTime(t *testing.T) {
	// They begin before 0, just there, and just behind it.
	wantTicks(t, arrivalAt(1, 100, 100, 5, 10), 100, 100, 0, 15)
	wantTicks(t, arrivalAt(1, 100, 100, 10, 10), 100, 100, 0, 20)
	wantTicks(t, arrivalAt(1, 100, 100, 11, 10), 100, 100, 1, 21)
	wantTicks(t, arrivalAt(1, 100, 100, 0, 1000), 100, 100, 0, 1000)
	wantTicks(t, arrivalAt(1, 103, 104, 105, 10), 100, 100, 0, 15)
	wantTicks(t, arrivalAt(1, 101, 101, 30, 10), 100, 100, 0, 11)
	// They end at 0 or before it.
	wantTicks(t, arrivalAt(1, 103, 104, 90, 10), 100, 100, 0, 0)
	wantTicks(t, arrivalAt(1, 103, 104, 100, 0), 100, 100, 0, 0)
	wantNoTicks(t, arrivalAt(1, 103, 104, 89, 10), 100, 100)
	wantNoTicks(t, arrivalAt(1, 103, 104, 99, 0), 100, 100)
	wantNoTicks(t, arrivalAt(1, 103, 104, 0, 0), 100, 100)
	wantNoTicks(t, arrivalAt(1, 0, 0, 0, 1000), 999, 999)
	wantTicks(t, arrivalAt(1, 101, 101, 29, 1), 100, 100, 0, 1)
	wantTicks(t, arrivalAt(1, 101, 101, 28, 1), 100, 100, 0, 0)
	wantNoTicks(t, arrivalAt(1, 101, 101, 27, 1), 100, 100)
	// They end behind MaxTick, just there, and just before it.
	wantTicks(t, arrivalAt(1, 100, 100, impl.MaxTick-5, 10), 100, 100, impl.MaxTick-15, impl.MaxTick)
	wantTicks(t, arrivalAt(1, 100, 100, impl.MaxTick-10, 10), 100, 100, impl.MaxTick-20, impl.MaxTick)
	wantTicks(t, arrivalAt(1, 100, 100, impl.MaxTick-11, 10), 100, 100, impl.MaxTick-21, impl.MaxTick-1)
	wantTicks(t, arrivalAt(1, 100, 100, impl.MaxTick, 0), 100, 100, impl.MaxTick, impl.MaxTick)
	wantTicks(t, arrivalAt(1, 100, 100, impl.MaxTick, 1000), 100, 100, impl.MaxTick-1000, impl.MaxTick)
	wantTicks(t, arrivalAt(1, 103, 104, impl.MaxTick, 150), 100, 100, impl.MaxTick-250, impl.MaxTick)
	wantTicks(t, arrivalAt(1, 103, 104, impl.MaxTick, 50), 100, 100, impl.MaxTick-150, impl.MaxTick-50)
	wantTicks(t, arrivalAt(1, 101, 101, impl.MaxTick, 29), 100, 100, impl.MaxTick-57, impl.MaxTick)
}

func TestTicksThatFitAtManyPlaces(t *testing.T) {
	seen := map[string]int{}
	for seed := range 300 {
		raw := numbers(seed, 6, 1000)
		a := arrivalAt(1+seed%99, raw[0], raw[1], 30*raw[2], raw[3]*raw[3]/1000)
		if seed%3 == 0 {
			a.Error = seed % 2
		}
		if seed%5 == 0 {
			a.Tick = impl.MaxTick - raw[2]
		}
		for _, p := range [][2]int{{raw[4], raw[5]}, {raw[0], raw[5]}, {raw[0], raw[1]}, {max(0, raw[0]-seed%9), raw[1]}, {0, 0}, {999, 999}} {
			fit := []int{}
			for _, tick := range likelyTicks([]impl.Arrival{a}, p[0], p[1]) {
				o := originAt(p[0], p[1], tick)
				wantFit(t, a, o, fitsBy(a, o))
				if fitsBy(a, o) {
					fit = append(fit, tick)
				}
			}
			if len(fit) == 0 {
				seen["none"]++
				wantNoTicks(t, a, p[0], p[1])
				continue
			}
			seen["some"]++
			wantTicks(t, a, p[0], p[1], slices.Min(fit), slices.Max(fit))
		}
	}
	if seen["none"] < 50 || seen["some"] < 500 {
		t.Error("too few of one kind", seen)
	}
}

func TestVotersFor(t *testing.T) {
	list := ordinaryArrivals()
	wantVoters(t, list, originAt(100, 100, 1000), 3, 6, 9, 15)
	// Each of these ticks is just at the Error of one of them, or just outside.
	wantVoters(t, list, originAt(100, 100, 999), 15)
	wantVoters(t, list, originAt(100, 100, 998), 15)
	wantVoters(t, list, originAt(100, 100, 997))
	wantVoters(t, list, originAt(100, 100, 1001), 9)
	wantVoters(t, list, originAt(100, 100, 1020), 9)
	wantVoters(t, list, originAt(100, 100, 1021))
	wantVoters(t, list, originAt(900, 900, 90000), 12)
	wantVoters(t, list, originAt(103, 104, 1100), 6)
	wantVoters(t, list, originAt(500, 500, 0))
	wantVoters(t, nil, originAt(100, 100, 1000))
	wantVoters(t, []impl.Arrival{}, originAt(999, 999, impl.MaxTick))
	// An Origin that fits all, and one that fits none.
	for n := range 9 {
		ids := []int{}
		for i := range n {
			ids = append(ids, 3*i+3)
		}
		wantVoters(t, together(n, 5000), originAt(200, 300, 5000), ids...)
		wantVoters(t, together(n, 5000), originAt(200, 300, 5001))
		wantVoters(t, together(n, 5000), originAt(201, 300, 5000))
	}
}

func TestVotersOfManyOrigins(t *testing.T) {
	seen := map[int]int{}
	for _, list := range goodArrivalLists() {
		for _, a := range list {
			for _, p := range [][2]int{{a.X, a.Y}, {a.X / 100 * 100, a.Y / 100 * 100}, {500, 500}} {
				for _, tick := range likelyTicks(list, p[0], p[1]) {
					o := originAt(p[0], p[1], tick)
					want := votersBy(list, o)
					seen[min(4, len(want))]++
					wantVoters(t, list, o, want...)
				}
			}
		}
	}
	for n := range 5 {
		if seen[n] < 50 {
			t.Error("too few Origins with", n, "votes", seen)
		}
	}
}

func TestMostVotesAt(t *testing.T) {
	list := ordinaryArrivals()
	wantMostAt(t, list, 100, 100, 4, 1000)
	wantMostAt(t, list, 103, 104, 1, 900)
	wantMostAt(t, list, 900, 900, 1, 89980)
	wantMostAt(t, together(8, 0), 200, 300, 8, 0)
	wantMostAt(t, together(8, 5000), 200, 300, 8, 5000)
	wantMostAt(t, together(1, 5000), 203, 304, 1, 4900)
	// The most votes are those where the spans of both Arrivals meet: in one tick, in some, or in none.
	for _, c := range [][4]int{{1010, 1, 1, 990}, {1010, 9, 1, 990}, {1010, 10, 2, 1000}, {1010, 11, 2, 999}, {1010, 19, 2, 991}, {1010, 20, 2, 990}, {1010, 30, 2, 990}, {985, 0, 1, 985}, {985, 5, 2, 990}, {985, 4, 1, 981}} {
		pair := arrivalsOf([4]int{100, 100, 995, 5}, [4]int{100, 100, c[0], c[1]})
		wantMostAt(t, pair, 100, 100, c[2], c[3])
		pair[0], pair[1] = arrivalAt(3, 100, 100, c[0], c[1]), arrivalAt(6, 100, 100, 995, 5)
		wantMostAt(t, pair, 100, 100, c[2], c[3])
	}
}

func TestMostVotesAtTwoTicks(t *testing.T) {
	// The smaller tick is taken, whichever Arrival comes first in the list.
	wantMostAt(t, arrivalsOf([4]int{100, 100, 1000, 0}, [4]int{100, 100, 2000, 0}), 100, 100, 1, 1000)
	wantMostAt(t, arrivalsOf([4]int{100, 100, 2000, 0}, [4]int{100, 100, 1000, 0}), 100, 100, 1, 1000)
	wantMostAt(t, arrivalsOf([4]int{100, 100, 2000, 0}, [4]int{100, 100, 2000, 9}, [4]int{100, 100, 1000, 9}, [4]int{103, 104, 1100, 0}), 100, 100, 2, 1000)
	wantMostAt(t, arrivalsOf([4]int{100, 100, 1000, 0}, [4]int{100, 100, 2000, 0}, [4]int{103, 104, 2100, 0}), 100, 100, 2, 2000)
	wantMostAt(t, arrivalsOf([4]int{100, 100, 1000, 7}, [4]int{100, 100, 1000, 3}, [4]int{100, 100, 1000, 5}), 100, 100, 3, 997)
}

func TestMostVotesAtTheEndsOfTime(t *testing.T) {
	wantMostAt(t, arrivalsOf([4]int{100, 100, 5, 10}, [4]int{103, 104, 100, 50}), 100, 100, 2, 0)
	wantMostAt(t, arrivalsOf([4]int{100, 100, 5, 10}, [4]int{103, 104, 111, 10}), 100, 100, 2, 1)
	wantMostAt(t, arrivalsOf([4]int{100, 100, 0, 0}, [4]int{103, 104, 90, 5}), 100, 100, 1, 0)
	wantMostAt(t, arrivalsOf([4]int{100, 100, impl.MaxTick, 0}, [4]int{100, 100, impl.MaxTick - 5, 10}), 100, 100, 2, impl.MaxTick)
	wantMostAt(t, arrivalsOf([4]int{100, 100, impl.MaxTick, 1000}, [4]int{100, 100, impl.MaxTick, 1000}), 100, 100, 2, impl.MaxTick-1000)
	// No tick has votes.
	wantNoVotesAt(t, nil, 100, 100)
	wantNoVotesAt(t, []impl.Arrival{}, 0, 0)
	wantNoVotesAt(t, arrivalsOf([4]int{100, 100, 1000, 0}), 101, 101)
	wantNoVotesAt(t, arrivalsOf([4]int{103, 104, 90, 5}, [4]int{103, 104, 94, 5}), 100, 100)
	wantNoVotesAt(t, arrivalsOf([4]int{103, 104, 0, 99}), 100, 100)
	wantMostAt(t, arrivalsOf([4]int{103, 104, 0, 100}), 100, 100, 1, 0)
	// An Arrival that no tick fits does not spoil those that some fit.
	wantMostAt(t, arrivalsOf([4]int{103, 104, 90, 5}, [4]int{101, 101, 1000, 0}, [4]int{100, 100, 7, 0}), 100, 100, 1, 7)
}

func TestMostVotesAtEachTick(t *testing.T) {
	for seed := range 40 {
		list := []impl.Arrival{}
		for i := range 2 + seed%7 {
			raw := numbers(1000+10*seed+i, 4, 1000)
			list = append(list, arrivalAt(i+1, raw[0]/50, raw[1]/50, raw[2]*2/3, raw[3]/(10+seed)))
		}
		for _, p := range [][2]int{{0, 0}, {10, 10}, {list[0].X, list[0].Y}, {19, 3}} {
			most, first := 0, 0
			for tick := range 800 {
				if n := len(votersBy(list, originAt(p[0], p[1], tick))); n > most {
					most, first = n, tick
				}
			}
			if most == 0 {
				wantNoVotesAt(t, list, p[0], p[1])
			} else {
				wantMostAt(t, list, p[0], p[1], most, first)
			}
		}
	}
}

func TestBestOnGrid(t *testing.T) {
	wantBest(t, ordinaryArrivals(), 100, originAt(100, 100, 1000), 4)
	wantBest(t, ordinaryArrivals(), 50, originAt(100, 100, 1000), 4)
	wantBest(t, together(8, 5000), 100, originAt(200, 300, 5000), 8)
	wantBest(t, together(8, 0), 50, originAt(200, 300, 0), 8)
	// Alone, an Arrival with a late Tick and a great Error fits the first place.
	wantBest(t, arrivalsOf([4]int{500, 500, 50000, 10}), 100, originAt(0, 0, 35848), 1)
	// The grid has no place near enough.
	wantNoBest(t, arrivalsOf([4]int{550, 550, 100, 10}), 100)
	wantBest(t, arrivalsOf([4]int{550, 550, 100, 10}), 50, originAt(550, 550, 90), 1)
	wantNoBest(t, arrivalsOf([4]int{999, 999, 0, 0}), 50)
	wantNoBest(t, nil, 100)
	wantNoBest(t, []impl.Arrival{}, 50)
	wantBest(t, arrivalsOf([4]int{0, 0, 0, 0}), 50, originAt(0, 0, 0), 1)
	wantBest(t, arrivalsOf([4]int{0, 0, 0, 0}), 500, originAt(0, 0, 0), 1)
}

func TestBestOnGridOfEachStep(t *testing.T) {
	// Each wave can come from its own place only, so that the places of a grid can be told one by one.
	for _, step := range []int{50, 51, 99, 100, 111, 199, 200, 249, 250, 333, 334, 499, 500} {
		for _, p := range []int{0, step - 1, step, step + 1, 2 * step, 3 * step, 999 / step * step, 998, 999} {
			if p > 999 {
				continue
			}
			for _, list := range [][]impl.Arrival{arrivalsOf([4]int{p, 0, 5, 0}), arrivalsOf([4]int{0, p, 5, 0})} {
				if p%step == 0 {
					wantBest(t, list, step, originAt(list[0].X, list[0].Y, 5), 1)
				} else {
					wantNoBest(t, list, step)
				}
			}
		}
	}
}

func TestBestOnGridOfTwoOriginsWithTheMostVotes(t *testing.T) {
	// Of two Origins the one with the smaller X is taken, then that with the smaller Y, then that with the smaller Tick.
	for _, c := range []struct{ first, second [4]int }{
		{[4]int{300, 500, 500, 0}, [4]int{600, 500, 500, 0}}, {[4]int{300, 900, 900, 0}, [4]int{600, 0, 0, 0}}, {[4]int{0, 900, 900, 9}, [4]int{100, 0, 0, 0}},
		{[4]int{300, 500, 500, 0}, [4]int{300, 600, 500, 0}}, {[4]int{300, 500, 900, 0}, [4]int{300, 600, 0, 0}}, {[4]int{300, 500, 500, 0}, [4]int{300, 500, 600, 0}},
		{[4]int{300, 500, 500, 99}, [4]int{300, 500, 600, 0}}, {[4]int{900, 0, 500, 0}, [4]int{900, 900, 500, 0}},
	} {
		want := originAt(c.first[0], c.first[1], c.first[2]-c.first[3])
		wantBest(t, arrivalsOf(c.first, c.second), 100, want, 1)
		wantBest(t, arrivalsOf(c.second, c.first), 100, want, 1)
		// More votes count before all of these.
		other := originAt(c.second[0], c.second[1], c.second[2])
		wantBest(t, arrivalsOf(c.first, c.second, c.second), 100, other, 2)
		wantBest(t, arrivalsOf(c.second, c.first, c.second, c.first), 100, want, 2)
	}
}

func TestBestOnEachGrid(t *testing.T) {
	seen := map[int]int{}
	for i, list := range goodArrivalLists() {
		step := []int{100, 250, 333, 500, 137}[i%5]
		if i%20 == 2 {
			step = 50
		}
		want, votes := bestBy(list, gridOrigins(list, step))
		seen[min(4, votes)]++
		if votes == 0 {
			wantNoBest(t, list, step)
			continue
		}
		wantBest(t, list, step, want, votes)
		wantMostAt(t, list, want.X, want.Y, votes, want.Tick)
	}
	for n := 1; n <= 4; n++ {
		if seen[n] < 8 {
			t.Error("too few grids with", n, "votes", seen)
		}
	}
}

func TestWithoutVoters(t *testing.T) {
	list := ordinaryArrivals()
	got, ok := impl.WithoutVoters(list, originAt(100, 100, 1000))
	if !ok || !slices.Equal(got, list[3:4]) {
		t.Errorf("WithoutVoters = %v, %v", got, ok)
	}
	got, ok = impl.WithoutVoters(got, originAt(900, 900, 90020))
	if !ok || len(got) != 0 {
		t.Errorf("WithoutVoters = %v, %v; want none, true", got, ok)
	}
	got, ok = impl.WithoutVoters(got, originAt(900, 900, 90020))
	if !ok || len(got) != 0 {
		t.Errorf("WithoutVoters of none = %v, %v; want none, true", got, ok)
	}
	got, ok = impl.WithoutVoters(list, originAt(0, 0, impl.MaxTick))
	if !ok || !slices.Equal(got, list) {
		t.Errorf("WithoutVoters = %v, %v; want all, true", got, ok)
	}
}

func TestEventsFound(t *testing.T) {
	first, second := originAt(100, 100, 1000), originAt(0, 0, 64525)
	list := ordinaryArrivals()
	wantEvents(t, list, 100, 1, first, second)
	for least := 2; least <= 4; least++ {
		wantEvents(t, list, 100, least, first)
	}
	for least := 5; least <= 8; least++ {
		wantEvents(t, list, 100, least)
	}
	for least := 1; least <= 8; least++ {
		wantEvents(t, together(8, 5000), 100, least, originAt(200, 300, 5000))
		wantEvents(t, nil, 100, least)
		wantEvents(t, []impl.Arrival{}, 500, least)
		if least < 8 {
			wantEvents(t, together(7, 4999), 50, least, originAt(200, 300, 4999))
			// A wave that came 250 kilometers before has as many votes.
			wantEvents(t, together(7, 5000), 50, least, originAt(50, 100, 0))
		}
	}
	wantEvents(t, together(7, 4999), 50, 8)
	// Nobody votes, though one vote would be enough.
	wantEvents(t, arrivalsOf([4]int{550, 550, 100, 10}), 100, 1)
}

func TestEventsFoundOneAfterTheOther(t *testing.T) {
	// The second one has fewer votes than the first one, and the third one fewer than the second one.
	three := arrivalsOf([4]int{600, 600, 10, 0}, [4]int{100, 900, 20, 0}, [4]int{600, 600, 11, 1}, [4]int{600, 603, 69, 1}, [4]int{300, 0, 30, 5}, [4]int{303, 4, 130, 5})
	wantEvents(t, three, 100, 1, originAt(600, 600, 10), originAt(300, 0, 25), originAt(100, 900, 20))
	wantEvents(t, three, 100, 2, originAt(600, 600, 10), originAt(300, 0, 25))
	wantEvents(t, three, 100, 3, originAt(600, 600, 10))
	wantEvents(t, three, 100, 4)
	// With the same votes, they come in the order of X, Y and Tick.
	eight := arrivalsOf([4]int{900, 0, 0, 0}, [4]int{0, 900, 9, 0}, [4]int{0, 900, 8, 0}, [4]int{300, 200, 9, 0}, [4]int{300, 100, 10, 0}, [4]int{0, 0, 9, 0}, [4]int{300, 300, 7, 1}, [4]int{300, 200, 8, 0})
	wantEvents(t, eight, 100, 1, originAt(0, 0, 9), originAt(0, 900, 8), originAt(0, 900, 9), originAt(300, 100, 10), originAt(300, 200, 8), originAt(300, 200, 9), originAt(300, 300, 6), originAt(900, 0, 0))
	wantEvents(t, eight, 100, 2)
}

func TestAnArrivalThatVotedDoesNotVoteAgain(t *testing.T) {
	// The one with the great Error fits both Origins, but votes for the first one only.
	list := arrivalsOf([4]int{500, 500, 600, 200}, [4]int{500, 500, 500, 0}, [4]int{500, 500, 700, 0}, [4]int{500, 500, 500, 1}, [4]int{500, 500, 699, 1})
	wantVoters(t, list, originAt(500, 500, 500), 3, 6, 12)
	wantVoters(t, list, originAt(500, 500, 700), 3, 9, 15)
	wantEvents(t, list, 100, 3, originAt(500, 500, 500))
	wantEvents(t, list, 100, 2, originAt(500, 500, 500), originAt(500, 500, 700))
	wantEvents(t, list, 100, 1, originAt(500, 500, 500), originAt(500, 500, 700))
	// So it does where a later tick, and then a later place, comes first with the votes.
	list = append(list, arrivalAt(50, 500, 501, 720, 0))
	wantEvents(t, list, 100, 4, originAt(500, 500, 700))
	wantEvents(t, list, 100, 2, originAt(500, 500, 700), originAt(500, 500, 500))
	list = arrivalsOf([4]int{500, 500, 600, 200}, [4]int{500, 500, 500, 0}, [4]int{500, 550, 1600, 0}, [4]int{500, 600, 500, 0})
	wantEvents(t, list, 100, 2, originAt(500, 500, 500))
	wantEvents(t, list, 100, 1, originAt(500, 500, 500), originAt(500, 500, 600), originAt(500, 600, 500))
}

// Promise 10.
func TestNoArrivalVotesForTwoEvents(t *testing.T) {
	several := 0
	for i, list := range goodArrivalLists() {
		for least := 1; least <= 3; least++ {
			step := []int{100, 250, 500, 333}[i%4]
			events, ok := impl.EventsFound(list, step, least)
			if !ok {
				t.Fatalf("EventsFound(%v, %d, %d) fails", list, step, least)
			}
			if len(events) > 1 {
				several++
			}
			voted := map[int]impl.Origin{}
			rest := slices.Clone(list)
			before := impl.MaxArrivals
			for _, o := range events {
				voters := votersBy(rest, o)
				if len(voters) < least || len(voters) > before {
					t.Errorf("%v has %d votes, at least %d and at most %d are needed: EventsFound(%v, %d, %d) = %v", o, len(voters), least, before, list, step, least, events)
				}
				before = len(voters)
				for _, id := range voters {
					if other, ok := voted[id]; ok {
						t.Errorf("%d votes for %v and %v", id, other, o)
					}
					voted[id] = o
				}
				rest = slices.DeleteFunc(rest, func(a impl.Arrival) bool { return slices.Contains(voters, a.Id) })
			}
			// Those that are left are too few for one more.
			if _, votes, _ := impl.BestOnGrid(rest, step); votes >= least {
				t.Errorf("EventsFound(%v, %d, %d) = %v, but %d votes are left", list, step, least, events, votes)
			}
		}
	}
	if several < 50 {
		t.Error("only", several, "lists with more than one event")
	}
}

func TestEventsFoundOneByOne(t *testing.T) {
	seen := map[int]int{}
	for i, list := range goodArrivalLists() {
		step := []int{250, 500, 333, 200}[i%4]
		least := 1 + i%3
		want, rest := []impl.Origin{}, list
		for {
			o, votes := bestBy(rest, gridOrigins(rest, step))
			if votes < least {
				break
			}
			want = append(want, o)
			next := []impl.Arrival{}
			for _, a := range rest {
				if !fitsBy(a, o) {
					next = append(next, a)
				}
			}
			rest = next
		}
		seen[min(3, len(want))]++
		wantEvents(t, list, step, least, want...)
	}
	for n := range 4 {
		if seen[n] < 3 {
			t.Error("too few lists with", n, "events", seen)
		}
	}
}

// withArrivalsBehind returns list with room behind its length, and the whole of it.
func withArrivalsBehind(list []impl.Arrival) ([]impl.Arrival, []impl.Arrival) {
	backing := append(slices.Clone(list), slices.Repeat([]impl.Arrival{arrivalAt(99, 100, 100, 1000, 1000)}, 12)...)
	return backing[:len(list)], backing
}

// callVoteFunctions calls each function of the chapter, and spoils what they return.
func callVoteFunctions(list []impl.Arrival, o impl.Origin, step int) {
	impl.AreArrivals(list)
	impl.VotesFor(list, o)
	impl.MostVotesAt(list, o.X, o.Y)
	impl.BestOnGrid(list, step)
	for _, a := range list {
		impl.DoesFit(a, o)
		impl.TicksThatFit(a, o.X, o.Y)
	}
	ids, _ := impl.VotersFor(list, o)
	ids = ids[:cap(ids)]
	for i := range ids {
		ids[i] = -9
	}
	rest, _ := impl.WithoutVoters(list, o)
	rest = rest[:cap(rest)]
	for i := range rest {
		rest[i] = impl.Arrival{Id: -9}
	}
	events, _ := impl.EventsFound(list, step, 1)
	events = events[:cap(events)]
	for i := range events {
		events[i] = originAt(-9, -9, -9)
	}
}

func TestVoteFunctionsKeepTheirArguments(t *testing.T) {
	for _, list := range slices.Concat(goodArrivalLists()[:30], badArrivalLists()[:20]) {
		arg, backing := withArrivalsBehind(list)
		want := slices.Clone(backing)
		for _, o := range []impl.Origin{originAt(100, 100, 1000), originAt(200, 300, 5000), originAt(500, 500, 0), originAt(-1, 0, 0)} {
			callVoteFunctions(arg, o, 250)
		}
		if !slices.Equal(backing, want) {
			t.Errorf("an argument changed: %v; want %v", backing, want)
		}
	}
}

func TestVoteFunctionsReadNothingBehindTheLength(t *testing.T) {
	whole := append(together(8, 5000), arrivalAt(1, 200, 300, 5000, 1000))
	for n := range 9 {
		list := whole[:n]
		ids := []int{}
		for _, a := range list {
			ids = append(ids, a.Id)
		}
		wantVoters(t, list, originAt(200, 300, 5000), ids...)
		if n == 0 {
			wantNoBest(t, list, 100)
			wantNoVotesAt(t, list, 200, 300)
			continue
		}
		wantMostAt(t, list, 200, 300, n, 5000)
		wantEvents(t, list, 100, n, bestOf(list))
	}
}

// bestOf returns the best Origin on a grid for the step 100.
func bestOf(list []impl.Arrival) impl.Origin {
	o, _ := bestBy(slices.Clone(list), gridOrigins(list, 100))
	return o
}

func TestVoteResultsAreOfTheirOwn(t *testing.T) {
	list := ordinaryArrivals()
	o := originAt(100, 100, 1000)
	for range 3 {
		wantVoters(t, list, o, 3, 6, 9, 15)
		wantVoters(t, list, originAt(0, 0, impl.MaxTick))
		wantEvents(t, list, 100, 1, o, originAt(0, 0, 64525))
		callVoteFunctions(list, o, 100)
		callVoteFunctions(list, originAt(0, 0, impl.MaxTick), 100)
	}
}
