package tests

import (
	"math"
	"math/big"
	"slices"
	"strings"
	"testing"

	"loop.example/g01017/impl"
)

// stationAt returns a valid station if id, name, x and y are.
func stationAt(id int, name string, x int, y int) impl.Station {
	return impl.Station{Id: id, Name: name, X: x, Y: y, Gain: 10, Low: 100, High: 2500, Until: 700}
}

// stationsAt returns stations with the ids 3, 6, 9 .. at the places.
func stationsAt(places ...[2]int) []impl.Station {
	list := []impl.Station{}
	for i, p := range places {
		list = append(list, stationAt(3*i+3, string(rune('z'-i)), p[0], p[1]))
	}
	return list
}

// stationsWithBands returns stations with the ids 3, 6, 9 .. that see the bands.
func stationsWithBands(bands ...[2]int) []impl.Station {
	list := []impl.Station{}
	for i, b := range bands {
		s := stationAt(3*i+3, string(rune('z'-i)), i, 0)
		s.Low, s.High = b[0], b[1]
		list = append(list, s)
	}
	return list
}

// stationsUntil returns stations with the ids 3, 6, 9 .. that are calibrated until the ticks.
func stationsUntil(ticks ...int) []impl.Station {
	list := []impl.Station{}
	for i, tick := range ticks {
		s := stationAt(3*i+3, string(rune('z'-i)), i, 0)
		s.Until = tick
		list = append(list, s)
	}
	return list
}

// with returns s as change leaves it.
func with(s impl.Station, change func(s *impl.Station)) impl.Station {
	change(&s)
	return s
}

// numbers returns n numbers of 0..below-1 that look scattered, the same ones for the same seed.
func numbers(seed int, n int, below int) []int {
	state := uint32(seed)*2654435761 + 12345
	list := []int{}
	for range n {
		state = state*1664525 + 1013904223
		list = append(list, int(state>>8)%below)
	}
	return list
}

// scattered returns at most n valid stations on a map of size by size places, many of them at equal distances.
func scattered(seed int, n int, size int) []impl.Station {
	raw := numbers(seed, 2*n, size)
	places := [][2]int{}
	for i := range n {
		if p := [2]int{raw[2*i], raw[2*i+1]}; !slices.Contains(places, p) {
			places = append(places, p)
		}
	}
	return stationsAt(places...)
}

func goodStations() []impl.Station {
	s := stationAt(12, "turm", 30, 40)
	return []impl.Station{
		s,
		{Id: 1, Name: "alm", Gain: 6, Low: 5, High: 1500, Until: 500},
		{Id: 99, Name: "zzzzzzzzzz", X: 999, Y: 999, Gain: 10000, Low: 4999, High: 5000, Until: impl.MaxTick},
		{Id: 1, Name: "a", X: 0, Y: 0, Gain: 1, Low: 1, High: 2, Until: 0},
		with(s, func(s *impl.Station) { s.Low, s.High = 1, 5000 }),
		with(s, func(s *impl.Station) { s.Name = "abcdefghij" }),
		with(s, func(s *impl.Station) { s.X = 0 }), with(s, func(s *impl.Station) { s.X = 999 }),
		with(s, func(s *impl.Station) { s.Y = 0 }), with(s, func(s *impl.Station) { s.Y = 999 }),
		with(s, func(s *impl.Station) { s.Low = s.High - 1 }), with(s, func(s *impl.Station) { s.Gain = 7 }),
	}
}

// badStations returns stations that are not valid, each for one reason.
func badStations() []impl.Station {
	s := stationAt(12, "turm", 30, 40)
	bad := []impl.Station{{}}
	for _, name := range []string{
		"", "abcdefghijk", strings.Repeat("a", 5000), "Turm", "tuRm", "turM", "tu rm", " turm", "turm ", "turm1", "1turm",
		"tu-rm", "tu_rm", "turm\n", "\x00turm", "tu`rm", "tu{rm", "t\u00fcrm", "\u00e4", "\u0430lm", "turm\xff", "@", "turm.",
	} {
		bad = append(bad, with(s, func(s *impl.Station) { s.Name = name }))
	}
	add := func(set func(s *impl.Station, n int), numbers ...int) {
		for _, n := range append(numbers, -1, math.MaxInt, math.MinInt, 1<<32+1, -1<<32) {
			bad = append(bad, with(s, func(s *impl.Station) { set(s, n) }))
		}
	}
	add(func(s *impl.Station, n int) { s.Id = n }, 0, 100, -12)
	add(func(s *impl.Station, n int) { s.X = n }, 1000)
	add(func(s *impl.Station, n int) { s.Y = n }, 1000)
	add(func(s *impl.Station, n int) { s.Gain = n }, 0, 10001)
	add(func(s *impl.Station, n int) { s.Low = n }, 0, 2500, 2501, 5000, 5001)
	add(func(s *impl.Station, n int) { s.High = n }, 0, 1, 99, 100, 5001)
	add(func(s *impl.Station, n int) { s.Until = n }, impl.MaxTick+1)
	return bad
}

func tenStations() []impl.Station {
	return stationsAt([2]int{0, 0}, [2]int{1, 0}, [2]int{0, 1}, [2]int{1, 1}, [2]int{2, 0}, [2]int{0, 2}, [2]int{2, 1}, [2]int{1, 2}, [2]int{2, 2}, [2]int{999, 999})
}

func goodStationLists() [][]impl.Station {
	lists := [][]impl.Station{nil, {}}
	for _, s := range goodStations() {
		lists = append(lists, []impl.Station{s})
	}
	for n := 1; n <= impl.MaxStations; n++ {
		lists = append(lists, scattered(n, n, 900))
	}
	return append(lists, tenStations(),
		[]impl.Station{stationAt(1, "b", 5, 6), stationAt(2, "a", 5, 7), stationAt(99, "ab", 4, 6)},
		[]impl.Station{stationAt(1, "a", 5, 6), stationAt(2, "aa", 6, 5), stationAt(3, "aaa", 5, 5)},
	)
}

func badStationLists() [][]impl.Station {
	a, b, c := stationAt(1, "alm", 0, 0), stationAt(2, "see", 3, 4), stationAt(5, "turm", 10, 0)
	lists := [][]impl.Station{
		{b, a}, {a, a}, {a, c, b}, {b, a, c}, {a, b, b},
		{a, stationAt(1, "see", 3, 4)}, {a, b, stationAt(2, "turm", 10, 0)}, {a, b, stationAt(1, "turm", 10, 0)},
		{a, stationAt(2, "alm", 3, 4)}, {a, b, stationAt(5, "alm", 10, 0)}, {a, b, stationAt(5, "see", 10, 0)},
		{a, stationAt(2, "see", 0, 0)}, {a, b, stationAt(5, "turm", 0, 0)}, {a, b, stationAt(5, "turm", 3, 4)},
	}
	for _, s := range badStations() {
		lists = append(lists, []impl.Station{s}, []impl.Station{a, s}, []impl.Station{s, stationAt(98, "see", 3, 4)}, []impl.Station{a, s, stationAt(98, "see", 3, 4)})
	}
	many := []impl.Station{}
	for i := range 30 {
		many = append(many, stationAt(i+1, string(rune('a'+i%26))+string(rune('a'+i/26)), i, i))
	}
	return append(lists, many[:impl.MaxStations+1], many, slices.Repeat([]impl.Station{a}, 5000), make([]impl.Station, 3), make([]impl.Station, 11))
}

func idsOfAll(list []impl.Station) []int {
	ids := []int{}
	for _, s := range list {
		ids = append(ids, s.Id)
	}
	return ids
}

func wantIds(t *testing.T, name string, got []int, ok bool, want ...int) {
	t.Helper()
	if !ok || !slices.Equal(got, want) {
		t.Errorf("%s = %v, %v; want %v, true", name, got, ok, want)
	}
}

func wantNoIds(t *testing.T, name string, got []int, ok bool) {
	t.Helper()
	if ok || len(got) != 0 {
		t.Errorf("%s = %v, %v; want none, false", name, got, ok)
	}
}

func wantNoSpeed(t *testing.T, s impl.Station, counts int) {
	t.Helper()
	if a, b, ok := impl.SpeedOf(s, counts); ok || a != 0 || b != 0 {
		t.Errorf("SpeedOf(%v, %d) = %d / %d, %v; want none, false", s, counts, a, b, ok)
	}
}

func wantNoBand(t *testing.T, list []impl.Station) {
	t.Helper()
	if low, high, ok := impl.CommonBand(list); ok || low != 0 || high != 0 {
		t.Errorf("CommonBand(%v) = %d, %d, %v; want none, false", list, low, high, ok)
	}
}

func wantBand(t *testing.T, list []impl.Station, low int, high int) {
	t.Helper()
	if a, b, ok := impl.CommonBand(list); !ok || a != low || b != high {
		t.Errorf("CommonBand(%v) = %d, %d, %v; want %d, %d", list, a, b, ok, low, high)
	}
}

func wantNotRecalibrated(t *testing.T, list []impl.Station, id int, gain int, until int) {
	t.Helper()
	if got, ok := impl.Recalibrate(list, id, gain, until); ok || len(got) != 0 {
		t.Errorf("Recalibrate(%v, %d, %d, %d) = %v, %v; want none, false", list, id, gain, until, got, ok)
	}
}

func wantGap(t *testing.T, list []impl.Station, x int, y int, want int) {
	t.Helper()
	if n, ok := impl.LargestGap(list, x, y); !ok || n != want {
		t.Errorf("LargestGap(%v, %d, %d) = %d, %v; want %d, true", list, x, y, n, ok, want)
	}
}

func wantNoGap(t *testing.T, list []impl.Station, x int, y int) {
	t.Helper()
	if n, ok := impl.LargestGap(list, x, y); ok || n != 0 {
		t.Errorf("LargestGap(%v, %d, %d) = %d, %v; want 0, false", list, x, y, n, ok)
	}
}

func wantPairs(t *testing.T, list []impl.Station, want ...[]int) {
	t.Helper()
	got, ok := impl.PairDistances(list)
	if !ok || !slices.EqualFunc(got, want, slices.Equal) {
		t.Errorf("PairDistances(%v) = %v, %v; want %v, true", list, got, ok, want)
	}
}

// beyond returns numbers outside of low..high.
func beyond(low int, high int) []int {
	return []int{low - 1, high + 1, low - 1000, high + 1000, math.MinInt, math.MaxInt, low - 1<<32, high + 1<<32}
}

func TestStationLimits(t *testing.T) {
	if impl.MaxStations != 10 {
		t.Error("limit", impl.MaxStations)
	}
}

func TestIsStation(t *testing.T) {
	for _, s := range goodStations() {
		if !impl.IsStation(s) || !impl.AreStations([]impl.Station{s}) {
			t.Error("valid", s)
		}
	}
	for _, s := range badStations() {
		if impl.IsStation(s) {
			t.Errorf("not valid %.60v", s)
		}
	}
}

func TestIsStationBands(t *testing.T) {
	edges := []int{-1, 0, 1, 2, 3, 2500, 4998, 4999, 5000, 5001}
	for _, low := range edges {
		for _, high := range edges {
			s := stationsWithBands([2]int{low, high})[0]
			if want := low >= 1 && high <= 5000 && low < high; impl.IsStation(s) != want {
				t.Error("band", low, high, !want)
			}
		}
	}
}

func TestIsStationNames(t *testing.T) {
	for c := range 256 {
		for _, name := range []string{string([]byte{byte(c)}), string([]byte{'a', byte(c)}), string([]byte{byte(c), 'b'}), string([]byte{'a', byte(c), 'b'})} {
			if want := c >= 'a' && c <= 'z'; impl.IsStation(stationAt(3, name, 1, 1)) != want {
				t.Errorf("name %q: not %v", name, want)
			}
		}
	}
	for n := range 20 {
		if want := n >= 1 && n <= 10; impl.IsStation(stationAt(3, strings.Repeat("q", n), 1, 1)) != want {
			t.Error("name of", n, "letters: not", want)
		}
	}
}

func TestAreStations(t *testing.T) {
	for _, list := range goodStationLists() {
		if !impl.AreStations(list) {
			t.Error("valid", list)
		}
	}
	for _, list := range badStationLists() {
		if impl.AreStations(list) {
			t.Errorf("not valid %.200v", list)
		}
	}
	list := []impl.Station{stationAt(1, "alm", 0, 0), stationAt(2, "see", 3, 4), stationAt(2, "see", 3, 4)}
	if !impl.AreStations(list[:2]) {
		t.Error("what stands behind the length counts")
	}
}

func TestStationFunctionsFailForInvalidStations(t *testing.T) {
	for _, s := range badStations() {
		for _, counts := range []int{0, 9, -9, 100000} {
			wantNoSpeed(t, s, counts)
		}
	}
	for _, list := range badStationLists() {
		for _, count := range []int{1, len(list), impl.MaxStations} {
			ids, ok := impl.NearestStations(list, 0, 0, count)
			wantNoIds(t, "NearestStations", ids, ok)
		}
		wantNoBand(t, list)
		ids, ok := impl.StationsSeeing(list, 200)
		wantNoIds(t, "StationsSeeing", ids, ok)
		ids, ok = impl.Uncalibrated(list, 701)
		wantNoIds(t, "Uncalibrated", ids, ok)
		for _, s := range list[:min(len(list), 12)] {
			wantNotRecalibrated(t, list, s.Id, 7, s.Until)
			wantNotRecalibrated(t, list, s.Id, 7, impl.MaxTick)
		}
		wantNoGap(t, list, 0, 0)
		wantNoGap(t, list, 500, 500)
		if pairs, ok := impl.PairDistances(list); ok || len(pairs) != 0 {
			t.Error("PairDistances", pairs, ok)
		}
	}
}

func TestStationFunctionsFailForInvalidNumbers(t *testing.T) {
	list := stationsAt([2]int{0, 0}, [2]int{3, 4}, [2]int{10, 0})
	for _, list := range [][]impl.Station{list, {}} {
		for _, n := range beyond(0, 999) {
			for _, p := range [][2]int{{n, 5}, {5, n}, {n, n}} {
				ids, ok := impl.NearestStations(list, p[0], p[1], 2)
				wantNoIds(t, "NearestStations", ids, ok)
				wantNoGap(t, list, p[0], p[1])
			}
		}
		for _, n := range beyond(1, impl.MaxStations) {
			ids, ok := impl.NearestStations(list, 5, 5, n)
			wantNoIds(t, "NearestStations", ids, ok)
		}
		for _, n := range beyond(1, 5000) {
			ids, ok := impl.StationsSeeing(list, n)
			wantNoIds(t, "StationsSeeing", ids, ok)
		}
		for _, n := range beyond(0, impl.MaxTick) {
			ids, ok := impl.Uncalibrated(list, n)
			wantNoIds(t, "Uncalibrated", ids, ok)
			wantNotRecalibrated(t, list, 3, 7, n)
		}
		for _, n := range beyond(1, 10000) {
			wantNotRecalibrated(t, list, 3, n, 700)
		}
	}
	for _, n := range beyond(-100000, 100000) {
		wantNoSpeed(t, list[0], n)
	}
}

func TestSpeedOf(t *testing.T) {
	for _, c := range []struct{ gain, counts, num, den int }{
		{6, 9, 3, 2}, {6, -9, -3, 2}, {6, 0, 0, 1}, {6, 6, 1, 1}, {6, -6, -1, 1}, {6, 12, 2, 1}, {6, 1, 1, 6}, {6, -1, -1, 6},
		{1, 100000, 100000, 1}, {1, -100000, -100000, 1}, {10000, 100000, 10, 1}, {10000, -100000, -10, 1},
		{10000, 99999, 99999, 10000}, {10000, -99999, -99999, 10000}, {10000, 0, 0, 1}, {10000, 1, 1, 10000}, {9999, 6, 2, 3333},
		{1, 0, 0, 1}, {4, 6, 3, 2}, {7, 5, 5, 7}, {8, -12, -3, 2},
	} {
		s := with(stationAt(12, "turm", 30, 40), func(s *impl.Station) { s.Gain = c.gain })
		if a, b, ok := impl.SpeedOf(s, c.counts); !ok || a != c.num || b != c.den {
			t.Errorf("%d counts with gain %d = %d / %d, %v; want %d / %d", c.counts, c.gain, a, b, ok, c.num, c.den)
		}
	}
}

func TestSpeedOfIsInLowestTerms(t *testing.T) {
	counts := []int{-100000, -99999, -65536, 65536, 99990, 100000}
	for n := -60; n <= 60; n++ {
		counts = append(counts, n)
	}
	for _, gain := range []int{1, 2, 3, 12, 36, 60, 97, 128, 5000, 9990, 9999, 10000} {
		s := with(stationAt(12, "turm", 30, 40), func(s *impl.Station) { s.Gain = gain })
		for _, n := range counts {
			want := big.NewRat(int64(n), int64(gain))
			a, b, ok := impl.SpeedOf(s, n)
			if !ok || int64(a) != want.Num().Int64() || int64(b) != want.Denom().Int64() {
				t.Fatalf("%d counts with gain %d = %d / %d, %v; want %v", n, gain, a, b, ok, want)
			}
		}
	}
}

func TestNearestStations(t *testing.T) {
	list := stationsAt([2]int{0, 0}, [2]int{3, 4}, [2]int{10, 0}, [2]int{5, 0}, [2]int{0, 5})
	for _, c := range []struct {
		x, y, count int
		want        []int
	}{
		{0, 0, 1, []int{3}},
		{0, 0, 2, []int{3, 6}},
		{0, 0, 3, []int{3, 6, 12}},
		{0, 0, 4, []int{3, 6, 12, 15}},
		{0, 0, 5, []int{3, 6, 12, 15, 9}},
		{0, 0, 6, []int{3, 6, 12, 15, 9}},
		{0, 0, impl.MaxStations, []int{3, 6, 12, 15, 9}},
		{10, 0, 1, []int{9}},
		{10, 0, 5, []int{9, 12, 6, 3, 15}},
		{3, 4, 2, []int{6, 15}},
		{999, 999, 3, []int{9, 6, 12}},
		{999, 0, 2, []int{9, 12}},
		{0, 999, 2, []int{15, 6}},
	} {
		ids, ok := impl.NearestStations(list, c.x, c.y, c.count)
		wantIds(t, "NearestStations", ids, ok, c.want...)
	}
}

func TestNearestStationsOnTies(t *testing.T) {
	ring := stationsAt([2]int{15, 10}, [2]int{10, 15}, [2]int{5, 10}, [2]int{10, 5}, [2]int{13, 14}, [2]int{14, 13}, [2]int{7, 6}, [2]int{6, 7}, [2]int{13, 6}, [2]int{6, 13})
	for count := 1; count <= impl.MaxStations; count++ {
		ids, ok := impl.NearestStations(ring, 10, 10, count)
		wantIds(t, "NearestStations on a ring", ids, ok, idsOfAll(ring)[:count]...)
	}
	// Where the sum of both ways is smaller, the distance need not be.
	list := stationsAt([2]int{17, 10}, [2]int{15, 15}, [2]int{10, 18})
	ids, ok := impl.NearestStations(list, 10, 10, 3)
	wantIds(t, "NearestStations", ids, ok, 3, 6, 9)
	list = stationsAt([2]int{18, 10}, [2]int{15, 15})
	ids, ok = impl.NearestStations(list, 10, 10, 2)
	wantIds(t, "NearestStations", ids, ok, 6, 3)
}

func TestNearestStationsOfNone(t *testing.T) {
	for _, list := range [][]impl.Station{nil, {}} {
		for _, count := range []int{1, impl.MaxStations} {
			ids, ok := impl.NearestStations(list, 0, 999, count)
			wantIds(t, "NearestStations of none", ids, ok)
		}
	}
}

func squareOf(s impl.Station, x int, y int) int {
	return (s.X-x)*(s.X-x) + (s.Y-y)*(s.Y-y)
}

// Promise 3, first part.
func TestNearerStationsComeFirst(t *testing.T) {
	for seed := range 60 {
		list := scattered(seed, 1+seed%impl.MaxStations, 3+seed%4)
		for _, p := range [][2]int{{0, 0}, {1, 2}, {2, 2}, {3, 1}, {999, 0}, {list[0].X, list[0].Y}} {
			left := slices.Clone(list)
			want := []int{}
			for len(left) > 0 {
				best := 0
				for i, s := range left {
					if squareOf(s, p[0], p[1]) < squareOf(left[best], p[0], p[1]) {
						best = i
					}
				}
				want = append(want, left[best].Id)
				left = slices.Delete(left, best, best+1)
			}
			for count := 1; count <= impl.MaxStations; count++ {
				ids, ok := impl.NearestStations(list, p[0], p[1], count)
				wantIds(t, "NearestStations", ids, ok, want[:min(count, len(want))]...)
			}
		}
	}
}

func TestCommonBand(t *testing.T) {
	wantBand(t, stationsWithBands([2]int{5, 1500}), 5, 1500)
	wantBand(t, stationsWithBands([2]int{1, 5000}), 1, 5000)
	wantBand(t, stationsWithBands([2]int{5, 1500}, [2]int{100, 2500}, [2]int{200, 400}), 200, 400)
	wantBand(t, stationsWithBands([2]int{200, 400}, [2]int{100, 2500}, [2]int{5, 1500}), 200, 400)
	wantBand(t, stationsWithBands([2]int{100, 2500}, [2]int{5, 1500}), 100, 1500)
	wantBand(t, stationsWithBands([2]int{5, 1500}, [2]int{5, 1500}), 5, 1500)
	wantBand(t, stationsWithBands([2]int{5, 6}, [2]int{5, 6}, [2]int{1, 6}), 5, 6)
}

func TestCommonBandOfOneFrequencyOrNone(t *testing.T) {
	wantBand(t, stationsWithBands([2]int{5, 300}, [2]int{300, 600}), 300, 300)
	wantBand(t, stationsWithBands([2]int{300, 600}, [2]int{5, 300}), 300, 300)
	wantBand(t, stationsWithBands([2]int{1, 2}, [2]int{2, 5000}), 2, 2)
	wantBand(t, stationsWithBands([2]int{1, 5000}, [2]int{4999, 5000}, [2]int{1, 4999}), 4999, 4999)
	wantNoBand(t, stationsWithBands([2]int{5, 300}, [2]int{301, 600}))
	wantNoBand(t, stationsWithBands([2]int{301, 600}, [2]int{5, 300}))
	wantNoBand(t, stationsWithBands([2]int{1, 2}, [2]int{4999, 5000}))
	wantNoBand(t, stationsWithBands([2]int{1, 300}, [2]int{200, 400}, [2]int{301, 600}))
	wantNoBand(t, nil)
	wantNoBand(t, []impl.Station{})
}

func bandsOf(seed int, n int) [][2]int {
	raw := numbers(seed, 2*n, 6)
	bands := [][2]int{}
	for i := range n {
		low := 1 + raw[2*i]
		bands = append(bands, [2]int{low, low + 1 + raw[2*i+1]})
	}
	return bands
}

// Promise 3, second part.
func TestCommonBandIsSeenByAll(t *testing.T) {
	for seed := range 200 {
		list := stationsWithBands(bandsOf(seed, 1+seed%impl.MaxStations)...)
		low, high, found := impl.CommonBand(list)
		common := false
		for frequency := 1; frequency <= 20; frequency++ {
			seen, ok := impl.StationsSeeing(list, frequency)
			if !ok {
				t.Fatal("StationsSeeing", list, frequency)
			}
			all := len(seen) == len(list)
			common = common || all
			if all != (found && low <= frequency && frequency <= high) {
				t.Fatalf("CommonBand(%v) = %d, %d, %v, but %d is seen by %v", list, low, high, found, frequency, seen)
			}
		}
		if common != found || !found && (low != 0 || high != 0) {
			t.Fatalf("CommonBand(%v) = %d, %d, %v", list, low, high, found)
		}
	}
}

func TestStationsSeeing(t *testing.T) {
	list := stationsWithBands([2]int{5, 1500}, [2]int{100, 2500}, [2]int{200, 400}, [2]int{1, 5000}, [2]int{4999, 5000}, [2]int{1, 2})
	for _, c := range []struct {
		frequency int
		want      []int
	}{
		{1, []int{12, 18}}, {2, []int{12, 18}}, {3, []int{12}}, {4, []int{12}}, {5, []int{3, 12}}, {99, []int{3, 12}}, {100, []int{3, 6, 12}},
		{199, []int{3, 6, 12}}, {200, []int{3, 6, 9, 12}}, {400, []int{3, 6, 9, 12}}, {401, []int{3, 6, 12}}, {1500, []int{3, 6, 12}},
		{1501, []int{6, 12}}, {2500, []int{6, 12}}, {2501, []int{12}}, {4998, []int{12}}, {4999, []int{12, 15}}, {5000, []int{12, 15}},
	} {
		ids, ok := impl.StationsSeeing(list, c.frequency)
		wantIds(t, "StationsSeeing", ids, ok, c.want...)
	}
	ids, ok := impl.StationsSeeing(list[:3], 5000)
	wantIds(t, "StationsSeeing, none of them,", ids, ok)
	ids, ok = impl.StationsSeeing(nil, 1)
	wantIds(t, "StationsSeeing of none", ids, ok)
}

func TestUncalibrated(t *testing.T) {
	list := stationsUntil(500, 700, 0, impl.MaxTick, 500)
	for _, c := range []struct {
		tick int
		want []int
	}{
		{0, nil}, {1, []int{9}}, {499, []int{9}}, {500, []int{9}}, {501, []int{3, 9, 15}}, {700, []int{3, 9, 15}}, {701, []int{3, 6, 9, 15}},
		{impl.MaxTick - 1, []int{3, 6, 9, 15}}, {impl.MaxTick, []int{3, 6, 9, 15}},
	} {
		ids, ok := impl.Uncalibrated(list, c.tick)
		wantIds(t, "Uncalibrated", ids, ok, c.want...)
	}
	ids, ok := impl.Uncalibrated(nil, 700)
	wantIds(t, "Uncalibrated of none", ids, ok)
	ids, ok = impl.Uncalibrated(stationsUntil(impl.MaxTick-1), impl.MaxTick)
	wantIds(t, "Uncalibrated", ids, ok, 3)
}

func TestRecalibrate(t *testing.T) {
	list := stationsUntil(500, 700, 0, impl.MaxTick)
	for at, s := range list {
		for _, gain := range []int{1, 7, s.Gain, 10000} {
			for _, until := range []int{s.Until, min(s.Until+1, impl.MaxTick), impl.MaxTick} {
				want := slices.Clone(list)
				want[at].Gain, want[at].Until = gain, until
				got, ok := impl.Recalibrate(list, s.Id, gain, until)
				if !ok || !slices.Equal(got, want) {
					t.Errorf("Recalibrate(%d, %d, %d) = %v, %v; want %v", s.Id, gain, until, got, ok, want)
				}
			}
		}
	}
}

func TestRecalibrateInvalid(t *testing.T) {
	list := stationsUntil(500, 700, 0, impl.MaxTick)
	for _, id := range []int{0, 1, 2, 4, 5, 7, 13, 15, 99, 100, -3, math.MaxInt, math.MinInt, 1<<32 + 3} {
		wantNotRecalibrated(t, list, id, 7, impl.MaxTick)
	}
	wantNotRecalibrated(t, list, 3, 7, 499)
	wantNotRecalibrated(t, list, 3, 10, 499)
	wantNotRecalibrated(t, list, 3, 7, 0)
	wantNotRecalibrated(t, list, 6, 7, 699)
	wantNotRecalibrated(t, list, 9, 7, -1)
	wantNotRecalibrated(t, list, 12, 7, impl.MaxTick-1)
	wantNotRecalibrated(t, list, 12, 7, impl.MaxTick+1)
	for _, gain := range beyond(1, 10000) {
		wantNotRecalibrated(t, list, 3, gain, 500)
	}
	wantNotRecalibrated(t, nil, 3, 7, 700)
	wantNotRecalibrated(t, nil, 0, 0, 0)
	wantNotRecalibrated(t, list[:1], 6, 7, impl.MaxTick)
}

func TestLargestGap(t *testing.T) {
	right, up, left, down := [2]int{6, 5}, [2]int{5, 6}, [2]int{4, 5}, [2]int{5, 4}
	here := [2]int{5, 5}
	wantGap(t, nil, 5, 5, 0)
	wantGap(t, []impl.Station{}, 0, 999, 0)
	wantGap(t, stationsAt(here), 5, 5, 0)
	wantGap(t, stationsAt(right), 5, 5, 1)
	wantGap(t, stationsAt(up), 5, 5, 0)
	wantGap(t, stationsAt(left), 5, 5, 0)
	wantGap(t, stationsAt(down), 5, 5, 0)
	wantGap(t, stationsAt(right, up), 5, 5, 2)
	wantGap(t, stationsAt(right, left), 5, 5, 1)
	wantGap(t, stationsAt(right, down), 5, 5, 1)
	wantGap(t, stationsAt(right, up, left), 5, 5, 3)
	wantGap(t, stationsAt(down, left, up), 5, 5, 0)
	wantGap(t, stationsAt(down, left, right), 5, 5, 1)
	wantGap(t, stationsAt(down, right, up), 5, 5, 2)
	wantGap(t, stationsAt(here, right, up), 5, 5, 2)
	wantGap(t, stationsAt(here, right, up, left), 5, 5, 3)
	wantNoGap(t, stationsAt(right, up, left, down), 5, 5)
	wantNoGap(t, stationsAt(here, down, left, up, right), 5, 5)
	wantNoGap(t, stationsAt([2]int{6, 6}, [2]int{4, 6}, [2]int{4, 4}, [2]int{6, 4}), 5, 5)
	wantNoGap(t, stationsAt([2]int{999, 5}, [2]int{5, 999}, [2]int{0, 5}, [2]int{5, 0}), 5, 5)
	wantGap(t, stationsAt([2]int{999, 5}, [2]int{5, 999}, [2]int{0, 5}, [2]int{5, 0}), 999, 999, 0)
	wantGap(t, stationsAt([2]int{999, 5}, [2]int{5, 999}, [2]int{0, 5}, [2]int{5, 0}), 0, 0, 2)
}

// TestLargestGapWithoutOneQuarter has stations at all places around but those in one quarter.
func TestLargestGapWithoutOneQuarter(t *testing.T) {
	around := [][2]int{{6, 5}, {6, 6}, {5, 6}, {4, 6}, {4, 5}, {4, 4}, {5, 4}, {6, 4}}
	for q := range 4 {
		places := slices.Clone(around)
		places = slices.Delete(places, 2*q, 2*q+2)
		wantGap(t, stationsAt(places...), 5, 5, q)
		for _, back := range around[2*q : 2*q+2] {
			wantNoGap(t, stationsAt(append(slices.Clone(places), back)...), 5, 5)
		}
	}
}

func inQuarter(s impl.Station, x int, y int, q int) bool {
	switch q {
	case 0:
		return s.X > x && s.Y >= y
	case 1:
		return s.X <= x && s.Y > y
	case 2:
		return s.X < x && s.Y <= y
	}
	return s.X >= x && s.Y < y
}

func TestLargestGapIsTheFirstEmptyQuarter(t *testing.T) {
	for seed := range 120 {
		list := scattered(seed, 1+seed%impl.MaxStations, 5)
		for x := range 5 {
			for y := range 5 {
				want := slices.IndexFunc([]int{0, 1, 2, 3}, func(q int) bool {
					return !slices.ContainsFunc(list, func(s impl.Station) bool { return inQuarter(s, x, y, q) })
				})
				if want < 0 {
					wantNoGap(t, list, x, y)
				} else {
					wantGap(t, list, x, y, want)
				}
			}
		}
	}
}

func TestPairDistances(t *testing.T) {
	wantPairs(t, nil)
	wantPairs(t, []impl.Station{})
	wantPairs(t, stationsAt([2]int{3, 4}))
	wantPairs(t, stationsAt([2]int{3, 4}, [2]int{0, 0}), []int{3, 6, 25})
	wantPairs(t, stationsAt([2]int{0, 999}, [2]int{999, 0}), []int{3, 6, 2 * 999 * 999})
	wantPairs(t, stationsAt([2]int{0, 0}, [2]int{3, 4}, [2]int{10, 0}), []int{3, 6, 25}, []int{6, 9, 65}, []int{3, 9, 100})
	wantPairs(t, stationsAt([2]int{10, 0}, [2]int{0, 0}, [2]int{3, 4}), []int{6, 9, 25}, []int{3, 9, 65}, []int{3, 6, 100})
	square := stationsAt([2]int{0, 0}, [2]int{5, 5}, [2]int{5, 0}, [2]int{0, 5})
	wantPairs(t, square, []int{3, 9, 25}, []int{3, 12, 25}, []int{6, 9, 25}, []int{6, 12, 25}, []int{3, 6, 50}, []int{9, 12, 50})
}

func TestPairDistancesInOrder(t *testing.T) {
	for seed := range 60 {
		list := scattered(seed, 1+seed%impl.MaxStations, 4+seed%5)
		want := [][]int{}
		for square := range 200 {
			for i, a := range list {
				for _, b := range list[i+1:] {
					if squareOf(a, b.X, b.Y) == square {
						want = append(want, []int{a.Id, b.Id, square})
					}
				}
			}
		}
		wantPairs(t, list, want...)
	}
	if pairs, ok := impl.PairDistances(tenStations()); !ok || len(pairs) != 45 {
		t.Error("the pairs of ten", pairs, ok)
	}
}

// withRoomBehind returns list with room behind it that other stations fill, and the whole.
func withRoomBehind(list []impl.Station) ([]impl.Station, []impl.Station) {
	backing := append(slices.Clone(list), slices.Repeat([]impl.Station{stationAt(77, "room", 77, 77)}, 20)...)
	return backing[:len(list)], backing
}

func TestStationFunctionsKeepTheirArguments(t *testing.T) {
	for _, list := range append(goodStationLists(), stationsUntil(500, 0, impl.MaxTick), stationsAt([2]int{9, 9}, [2]int{8, 8}, [2]int{1, 1})) {
		arg, backing := withRoomBehind(list)
		want := slices.Clone(backing)
		near, _ := impl.NearestStations(arg, 0, 0, impl.MaxStations)
		impl.AreStations(arg)
		impl.CommonBand(arg)
		impl.StationsSeeing(arg, 200)
		impl.Uncalibrated(arg, 600)
		impl.LargestGap(arg, 5, 5)
		impl.PairDistances(arg)
		for i := range arg {
			changed, _ := impl.Recalibrate(arg, arg[i].Id, 9, impl.MaxTick)
			whole := changed[:cap(changed)]
			for j := range whole {
				whole[j] = impl.Station{}
			}
		}
		for i := range near {
			near[i] = 0
		}
		if !slices.Equal(backing, want) {
			t.Errorf("an argument changed: %v; want %v", backing, want)
		}
	}
}

func TestPairDistancesShareNoMemory(t *testing.T) {
	list := stationsAt([2]int{0, 0}, [2]int{3, 4}, [2]int{10, 0}, [2]int{7, 7})
	want, _ := impl.PairDistances(list)
	for i := range want {
		got, _ := impl.PairDistances(list)
		row := got[i][:cap(got[i])]
		for j := range row {
			row[j] = -1
		}
		for k := range got {
			if k != i && !slices.Equal(got[k], want[k]) {
				t.Error("rows share memory", got)
			}
		}
	}
}
