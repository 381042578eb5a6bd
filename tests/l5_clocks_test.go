package tests

import (
	"math"
	"math/big"
	"slices"
	"testing"

	"loop.example/g01017/impl"
)

// trackWith returns the track with pairs of Shown and True.
func trackWith(pairs ...[2]int) []impl.ClockMark {
	track := []impl.ClockMark{}
	for _, p := range pairs {
		track = append(track, impl.ClockMark{Shown: p[0], True: p[1]})
	}
	return track
}

// evenTrack returns n marks of which the first one is 100 and 200 and each further one by the steps greater.
func evenTrack(n int, shown int, time int) []impl.ClockMark {
	track := []impl.ClockMark{}
	for i := range n {
		track = append(track, impl.ClockMark{Shown: 100 + i*shown, True: 200 + i*time})
	}
	return track
}

// scatteredTrack returns n marks, of which each is by 1..span greater than the one before, from start on.
func scatteredTrack(seed int, n int, start int, span int) []impl.ClockMark {
	raw := numbers(seed, 2*n, span)
	m := impl.ClockMark{Shown: start, True: start}
	track := []impl.ClockMark{}
	for i := range n {
		m.Shown += raw[2*i] + 1
		m.True += raw[2*i+1] + 1
		track = append(track, m)
	}
	return track
}

// goodTracks returns tracks of each length: ordinary ones, at the limits, steep, flat, early and late ones.
func goodTracks() [][]impl.ClockMark {
	good := [][]impl.ClockMark{
		trackWith([2]int{100, 100}, [2]int{200, 210}, [2]int{300, 305}),
		trackWith([2]int{0, 0}, [2]int{impl.MaxTick, impl.MaxTick}),
		trackWith([2]int{0, 0}, [2]int{1, 1}),
		trackWith([2]int{impl.MaxTick - 1, impl.MaxTick - 1}, [2]int{impl.MaxTick, impl.MaxTick}),
		trackWith([2]int{0, 0}, [2]int{1, impl.MaxTick}),
		trackWith([2]int{0, 0}, [2]int{impl.MaxTick, 1}),
		trackWith([2]int{500, 0}, [2]int{501, impl.MaxTick}),
		trackWith([2]int{0, 7}, [2]int{impl.MaxTick, 8}),
		trackWith([2]int{0, 999998}, [2]int{999998, 999999}, [2]int{impl.MaxTick, impl.MaxTick}),
		trackWith([2]int{1000, 10}, [2]int{1007, 13}, [2]int{1020, 20}),
		trackWith([2]int{0, 500000}, [2]int{7, 500003}),
		trackWith([2]int{500000, 400000}, [2]int{500001, 400999}, [2]int{999999, 401000}, [2]int{impl.MaxTick, impl.MaxTick}),
	}
	for n := 2; n <= impl.MaxClockMarks; n++ {
		good = append(good, evenTrack(n, 1, 1), evenTrack(n, 7, 3), evenTrack(n, 3, 7), evenTrack(n, 1000, 1001))
		good = append(good, scatteredTrack(n, n, 0, 9), scatteredTrack(n+20, n, 30, 60), scatteredTrack(n+40, n, 5000, 90000), scatteredTrack(n+60, n, 980000, 900))
	}
	return good
}

// changed returns track in which one mark is another one.
func changed(track []impl.ClockMark, at int, m impl.ClockMark) []impl.ClockMark {
	list := slices.Clone(track)
	list[at] = m
	return list
}

// badTracks returns lists that are no tracks, each for one reason.
func badTracks() [][]impl.ClockMark {
	bad := [][]impl.ClockMark{
		nil, {}, evenTrack(1, 1, 1), evenTrack(11, 1, 1), evenTrack(11, 70, 30), evenTrack(3000, 1, 1),
		trackWith([2]int{100, 100}, [2]int{100, 101}), trackWith([2]int{100, 100}, [2]int{101, 100}), trackWith([2]int{100, 100}, [2]int{100, 100}),
		trackWith([2]int{100, 100}, [2]int{99, 101}), trackWith([2]int{100, 100}, [2]int{101, 99}), trackWith([2]int{200, 210}, [2]int{100, 100}),
		trackWith([2]int{0, 0}, [2]int{0, 0}),
	}
	for _, n := range []int{3, 10} {
		track := evenTrack(n, 10, 20)
		for i := 1; i < n; i++ {
			before := track[i-1]
			bad = append(bad, changed(track, i, before), changed(track, i, impl.ClockMark{Shown: before.Shown, True: track[i].True}), changed(track, i, impl.ClockMark{Shown: track[i].Shown, True: before.True}))
			bad = append(bad, changed(track, i, impl.ClockMark{Shown: before.Shown - 1, True: track[i].True}), changed(track, i, impl.ClockMark{Shown: track[i].Shown, True: before.True - 1}))
		}
	}
	for _, n := range []int{-1, -1000, math.MinInt} {
		bad = append(bad, trackWith([2]int{n, 0}, [2]int{5, 5}), trackWith([2]int{0, n}, [2]int{5, 5}), trackWith([2]int{n, n}, [2]int{5, 5}, [2]int{6, 6}))
	}
	for _, n := range []int{impl.MaxTick + 1, impl.MaxTick + 1000, 1<<32 + 5, math.MaxInt} {
		bad = append(bad, trackWith([2]int{0, 0}, [2]int{n, 5}), trackWith([2]int{0, 0}, [2]int{5, n}), trackWith([2]int{0, 0}, [2]int{5, 5}, [2]int{n, n}))
	}
	return bad
}

// lineOf returns the two marks on whose line the true time of a shown tick lies.
func lineOf(track []impl.ClockMark, shown int) (impl.ClockMark, impl.ClockMark) {
	for i := range len(track) - 2 {
		if shown <= track[i+1].Shown {
			return track[i], track[i+1]
		}
	}
	return track[len(track)-2], track[len(track)-1]
}

// timeBy returns the true time of a shown tick as the document's formula has it, a tick or not.
func timeBy(track []impl.ClockMark, shown int) int {
	a, b := lineOf(track, shown)
	product := new(big.Int).Mul(big.NewInt(int64(shown-a.Shown)), big.NewInt(int64(b.True-a.True)))
	// Div rounds down, since the divisor is greater than 0.
	return a.True + int(product.Div(product, big.NewInt(int64(b.Shown-a.Shown))).Int64())
}

// shownTicks returns shown ticks near the marks of a track and near both limits, and some in between, in ascending order.
func shownTicks(track []impl.ClockMark) []int {
	ticks := numbers(len(track), 40, impl.MaxTick+1)
	around := []int{0, impl.MaxTick}
	for i, m := range track {
		around = append(around, m.Shown)
		if i > 0 {
			around = append(around, (m.Shown+track[i-1].Shown)/2)
		}
	}
	for _, n := range around {
		for tick := max(0, n-12); tick <= min(impl.MaxTick, n+12); tick++ {
			ticks = append(ticks, tick)
		}
	}
	slices.Sort(ticks)
	return slices.Compact(ticks)
}

func wantTrueTick(t *testing.T, track []impl.ClockMark, shown int, want int) {
	t.Helper()
	if n, ok := impl.TrueTick(track, shown); !ok || n != want {
		t.Errorf("TrueTick(%v, %d) = %d, %v; want %d, true", track, shown, n, ok, want)
	}
}

func wantNoTrueTick(t *testing.T, track []impl.ClockMark, shown int) {
	t.Helper()
	if n, ok := impl.TrueTick(track, shown); ok || n != 0 {
		t.Errorf("TrueTick(%v, %d) = %d, %v; want 0, false", track, shown, n, ok)
	}
}

func wantShownTick(t *testing.T, track []impl.ClockMark, time int, want int) {
	t.Helper()
	if n, ok := impl.ShownTick(track, time); !ok || n != want {
		t.Errorf("ShownTick(%v, %d) = %d, %v; want %d, true", track, time, n, ok, want)
	}
}

func wantNoShownTick(t *testing.T, track []impl.ClockMark, time int) {
	t.Helper()
	if n, ok := impl.ShownTick(track, time); ok || n != 0 {
		t.Errorf("ShownTick(%v, %d) = %d, %v; want 0, false", track, time, n, ok)
	}
}

func wantTrack(t *testing.T, name string, got []impl.ClockMark, ok bool, want []impl.ClockMark) {
	t.Helper()
	if !ok || !slices.Equal(got, want) {
		t.Errorf("%s = %v, %v; want %v, true", name, got, ok, want)
	}
}

func wantNoTrack(t *testing.T, name string, got []impl.ClockMark, ok bool) {
	t.Helper()
	if ok || len(got) != 0 {
		t.Errorf("%s = %v, %v; want none, false", name, got, ok)
	}
}

func wantDropped(t *testing.T, track []impl.ClockMark, within int, want []impl.ClockMark) {
	t.Helper()
	got, ok := impl.DropMarks(track, within)
	wantTrack(t, "DropMarks", got, ok, want)
}

func wantWorst(t *testing.T, track []impl.ClockMark, want int) {
	t.Helper()
	if n, ok := impl.WorstDrift(track); !ok || n != want {
		t.Errorf("WorstDrift(%v) = %d, %v; want %d, true", track, n, ok, want)
	}
}

func wantOffsets(t *testing.T, track []impl.ClockMark, least int, greatest int) {
	t.Helper()
	if low, high, ok := impl.SpanOffsets(track); !ok || low != least || high != greatest {
		t.Errorf("SpanOffsets(%v) = %d, %d, %v; want %d, %d, true", track, low, high, ok, least, greatest)
	}
}

func TestClockLimits(t *testing.T) {
	if impl.MaxClockMarks != 10 {
		t.Error("limit", impl.MaxClockMarks)
	}
}

func TestIsTrack(t *testing.T) {
	for _, track := range goodTracks() {
		if !impl.IsTrack(track) {
			t.Error("a track", track)
		}
	}
	for _, list := range badTracks() {
		if impl.IsTrack(list) {
			t.Errorf("no track: %.200v", list)
		}
	}
}

func TestClockFunctionsFailForInvalidTracks(t *testing.T) {
	good := evenTrack(2, 5, 5)
	for _, list := range badTracks() {
		wantNoTrueTick(t, list, 100)
		wantNoTrueTick(t, list, 0)
		wantNoShownTick(t, list, 200)
		wantNoShownTick(t, list, 0)
		if d, ok := impl.DriftsOf(list); ok || len(d) != 0 {
			t.Error("drifts", list, d, ok)
		}
		if n, ok := impl.WorstDrift(list); ok || n != 0 {
			t.Error("the worst drift", list, n, ok)
		}
		if low, high, ok := impl.SpanOffsets(list); ok || low != 0 || high != 0 {
			t.Error("offsets", list, low, high, ok)
		}
		for _, m := range trackWith([2]int{0, 0}, [2]int{150, 250}, [2]int{50000, 60000}) {
			got, ok := impl.AddClockMark(list, m)
			wantNoTrack(t, "AddClockMark", got, ok)
		}
		for _, n := range []int{0, 1000} {
			got, ok := impl.DropMarks(list, n)
			wantNoTrack(t, "DropMarks", got, ok)
			at, ok := impl.StepAt(list, n)
			wantNoNumbers(t, "StepAt", at, ok)
		}
		for _, pair := range [][2][]impl.ClockMark{{list, good}, {good, list}, {list, list}} {
			got, ok := impl.MergeTracks(pair[0], pair[1])
			wantNoTrack(t, "MergeTracks", got, ok)
		}
	}
}

func TestClockFunctionsFailForInvalidNumbers(t *testing.T) {
	for _, track := range [][]impl.ClockMark{evenTrack(2, 5, 5), evenTrack(10, 50, 40), goodTracks()[0], goodTracks()[1]} {
		for _, n := range beyond(0, impl.MaxTick) {
			wantNoTrueTick(t, track, n)
			wantNoShownTick(t, track, n)
			at, ok := impl.StepAt(track, n)
			wantNoNumbers(t, "StepAt", at, ok)
			for _, m := range []impl.ClockMark{{Shown: n, True: 150}, {Shown: 50, True: n}, {Shown: n, True: n}} {
				got, ok := impl.AddClockMark(track[:2], m)
				wantNoTrack(t, "AddClockMark", got, ok)
			}
		}
		for _, n := range beyond(0, 1000) {
			got, ok := impl.DropMarks(track, n)
			wantNoTrack(t, "DropMarks", got, ok)
		}
	}
}

func TestTrueTick(t *testing.T) {
	track := trackWith([2]int{100, 100}, [2]int{200, 210}, [2]int{300, 305})
	for shown, want := range map[int]int{
		100: 100, 200: 210, 300: 305, 101: 101, 109: 109, 110: 111, 150: 155, 199: 208, 201: 210, 202: 211, 250: 257, 299: 304,
		50: 45, 95: 94, 99: 98, 90: 89, 89: 87, 10: 1, 11: 2, 301: 305, 302: 306, 320: 324, 400: 400, 10000: 9520,
	} {
		wantTrueTick(t, track, shown, want)
	}
	for _, shown := range []int{0, 1, 5, 8, 9} {
		wantNoTrueTick(t, track, shown)
	}
	flat := trackWith([2]int{1000, 10}, [2]int{1007, 13})
	for shown, want := range map[int]int{999: 9, 998: 9, 997: 8, 996: 8, 995: 7, 994: 7, 993: 7, 992: 6, 977: 0, 1001: 10, 1002: 10, 1003: 11, 1008: 13, 1009: 13, 1010: 14} {
		wantTrueTick(t, flat, shown, want)
	}
	wantNoTrueTick(t, flat, 976)
}

func TestTrueTickOutsideOfTheTicks(t *testing.T) {
	late := trackWith([2]int{0, impl.MaxTick - 10}, [2]int{2, impl.MaxTick - 9})
	for _, shown := range []int{19, 20, 21} {
		wantTrueTick(t, late, shown, impl.MaxTick-10+shown/2)
	}
	for _, shown := range []int{22, 23, 1000, impl.MaxTick} {
		wantNoTrueTick(t, late, shown)
	}
	early := trackWith([2]int{20, 3}, [2]int{22, 4})
	for shown, want := range map[int]int{14: 0, 15: 0, 16: 1, 17: 1} {
		wantTrueTick(t, early, shown, want)
	}
	for _, shown := range []int{0, 12, 13} {
		wantNoTrueTick(t, early, shown)
	}
	steep := trackWith([2]int{500, 0}, [2]int{501, impl.MaxTick})
	wantTrueTick(t, steep, 500, 0)
	wantTrueTick(t, steep, 501, impl.MaxTick)
	for _, shown := range []int{0, 499, 502, impl.MaxTick} {
		wantNoTrueTick(t, steep, shown)
	}
}

// Promise 5.
func TestEachMarkIsMetExactlyAndTrueTimesNeverDecrease(t *testing.T) {
	for _, track := range goodTracks() {
		for _, m := range track {
			wantTrueTick(t, track, m.Shown, m.True)
		}
		before, begun, ended := -1, false, false
		for _, shown := range shownTicks(track) {
			want := timeBy(track, shown)
			if want < 0 || want > impl.MaxTick {
				wantNoTrueTick(t, track, shown)
			} else {
				wantTrueTick(t, track, shown, want)
			}
			n, ok := impl.TrueTick(track, shown)
			if ok && (n < before || ended) {
				t.Error("a smaller true time", track, shown, n, before)
			}
			if ok {
				before, begun = n, true
			}
			ended = begun && !ok
		}
	}
}

func TestShownTick(t *testing.T) {
	track := trackWith([2]int{100, 100}, [2]int{200, 210}, [2]int{300, 305})
	for time, want := range map[int]int{0: 10, 1: 10, 2: 11, 45: 50, 46: 51, 87: 89, 88: 90, 89: 90, 100: 100, 101: 101, 109: 109, 110: 110, 111: 110, 155: 150, 156: 151, 210: 200, 211: 202, 305: 300, 306: 302, 9520: 10000} {
		wantShownTick(t, track, time, want)
	}
}

func TestShownTickWhereSeveralHaveTheTime(t *testing.T) {
	flat := trackWith([2]int{100, 50}, [2]int{200, 60}, [2]int{230, 61})
	for time, want := range map[int]int{0: 0, 39: 0, 40: 0, 41: 10, 49: 90, 50: 100, 51: 110, 52: 120, 60: 200, 61: 230, 62: 260, 63: 290} {
		wantShownTick(t, flat, time, want)
	}
	wantShownTick(t, trackWith([2]int{0, 7}, [2]int{impl.MaxTick, 8}), 7, 0)
	wantShownTick(t, trackWith([2]int{0, 7}, [2]int{impl.MaxTick, 8}), 8, impl.MaxTick)
	wantShownTick(t, trackWith([2]int{0, 7}, [2]int{impl.MaxTick, 8}), 0, 0)
}

func TestShownTickWhereThereIsNone(t *testing.T) {
	for _, time := range []int{9, 10, impl.MaxTick} {
		wantNoShownTick(t, trackWith([2]int{0, 7}, [2]int{impl.MaxTick, 8}), time)
	}
	slow := trackWith([2]int{0, 0}, [2]int{10, 5})
	wantShownTick(t, slow, 500000, impl.MaxTick)
	wantShownTick(t, slow, 499999, impl.MaxTick-2)
	wantNoShownTick(t, slow, 500001)
	// The tick behind the last one would have the time.
	wantNoShownTick(t, trackWith([2]int{1, 0}, [2]int{2, 1}), impl.MaxTick)
	wantShownTick(t, trackWith([2]int{1, 0}, [2]int{2, 1}), impl.MaxTick-1, impl.MaxTick)
}

func TestShownTickWhoseTimeIsNoTick(t *testing.T) {
	steep := trackWith([2]int{0, 0}, [2]int{1, 600000})
	for time, want := range map[int]int{0: 0, 1: 1, 599999: 1, 600000: 1} {
		wantShownTick(t, steep, time, want)
	}
	for _, time := range []int{600001, 999999, impl.MaxTick} {
		wantNoShownTick(t, steep, time)
	}
	odd := trackWith([2]int{0, 0}, [2]int{1, 3})
	wantShownTick(t, odd, impl.MaxTick-1, 333333)
	wantNoShownTick(t, odd, impl.MaxTick)
}

// shownBy returns the smallest shown tick whose true time is at least time, of those that are given in ascending order, or the number of them.
func shownBy(times []int, time int) int {
	at, _ := slices.BinarySearch(times, time)
	return at
}

func TestShownTickIsTheSmallestOne(t *testing.T) {
	for seed, track := range goodTracks()[:30] {
		times := make([]int, 0, impl.MaxTick+1)
		for shown := range impl.MaxTick + 1 {
			a, b := lineOf(track, shown)
			product := (shown - a.Shown) * (b.True - a.True)
			// The shift makes the number to be divided positive, so that Go's division rounds down.
			shift := impl.MaxTick * impl.MaxTick
			times = append(times, a.True+(product+shift*(b.Shown-a.Shown))/(b.Shown-a.Shown)-shift)
		}
		queries := append(numbers(seed, 60, impl.MaxTick+1), 0, impl.MaxTick)
		for _, m := range track {
			queries = append(queries, m.True, m.True+1, m.True-1, m.True+2, m.True-2, m.True+500, m.True-500)
		}
		for _, time := range queries {
			if time < 0 || time > impl.MaxTick {
				continue
			}
			if want := shownBy(times, time); want < len(times) && times[want] <= impl.MaxTick {
				wantShownTick(t, track, time, want)
			} else {
				wantNoShownTick(t, track, time)
			}
		}
	}
}

func TestDriftsOf(t *testing.T) {
	for _, c := range []struct {
		track []impl.ClockMark
		want  []impl.Drift
	}{
		{trackWith([2]int{100, 100}, [2]int{200, 210}, [2]int{300, 305}), []impl.Drift{{Num: 11, Den: 10}, {Num: 19, Den: 20}}},
		{trackWith([2]int{0, 0}, [2]int{impl.MaxTick, impl.MaxTick}), []impl.Drift{{Num: 1, Den: 1}}},
		{trackWith([2]int{0, 0}, [2]int{1, impl.MaxTick}), []impl.Drift{{Num: impl.MaxTick, Den: 1}}},
		{trackWith([2]int{0, 0}, [2]int{impl.MaxTick, 1}), []impl.Drift{{Num: 1, Den: impl.MaxTick}}},
		{trackWith([2]int{5, 50}, [2]int{11, 60}, [2]int{18, 67}, [2]int{20, 73}), []impl.Drift{{Num: 5, Den: 3}, {Num: 1, Den: 1}, {Num: 3, Den: 1}}},
	} {
		if got, ok := impl.DriftsOf(c.track); !ok || !slices.Equal(got, c.want) {
			t.Errorf("DriftsOf(%v) = %v, %v; want %v, true", c.track, got, ok, c.want)
		}
	}
	for _, track := range goodTracks() {
		got, ok := impl.DriftsOf(track)
		if !ok || len(got) != len(track)-1 {
			t.Error("the number of drifts", track, got, ok)
			continue
		}
		for i, d := range got {
			want := big.NewRat(int64(track[i+1].True-track[i].True), int64(track[i+1].Shown-track[i].Shown))
			if want.Num().Int64() != int64(d.Num) || want.Denom().Int64() != int64(d.Den) {
				t.Error("a drift", track, i, d, want)
			}
		}
	}
}

// farFromOne returns how much the drift between two marks differs from 1.
func farFromOne(a impl.ClockMark, b impl.ClockMark) *big.Rat {
	r := big.NewRat(int64(b.True-a.True), int64(b.Shown-a.Shown))
	r.Sub(r, big.NewRat(1, 1))
	return r.Abs(r)
}

func TestWorstDrift(t *testing.T) {
	wantWorst(t, trackWith([2]int{100, 100}, [2]int{200, 210}, [2]int{300, 305}), 0)
	wantWorst(t, trackWith([2]int{100, 100}, [2]int{200, 205}, [2]int{300, 295}), 1)
	wantWorst(t, trackWith([2]int{0, 0}, [2]int{1, 2}, [2]int{11, 3}), 0)
	wantWorst(t, trackWith([2]int{0, 0}, [2]int{10, 1}, [2]int{11, 3}), 1)
	wantWorst(t, trackWith([2]int{5, 5}, [2]int{6, 6}), 0)
	wantWorst(t, evenTrack(10, 7, 7), 0)
	for _, track := range goodTracks() {
		want := 0
		for i := 1; i < len(track)-1; i++ {
			if farFromOne(track[i], track[i+1]).Cmp(farFromOne(track[want], track[want+1])) > 0 {
				want = i
			}
		}
		wantWorst(t, track, want)
	}
}

func TestWorstDriftOnTies(t *testing.T) {
	wantWorst(t, trackWith([2]int{0, 0}, [2]int{10, 11}, [2]int{20, 20}), 0)
	wantWorst(t, trackWith([2]int{0, 0}, [2]int{10, 9}, [2]int{20, 20}), 0)
	wantWorst(t, trackWith([2]int{0, 0}, [2]int{5, 5}, [2]int{15, 14}, [2]int{35, 36}, [2]int{45, 47}), 1)
	wantWorst(t, trackWith([2]int{0, 0}, [2]int{100, 101}, [2]int{120, 122}, [2]int{130, 131}, [2]int{150, 149}), 2)
	wantWorst(t, trackWith([2]int{0, 0}, [2]int{333333, 333334}, [2]int{666665, 666667}), 1)
	wantWorst(t, trackWith([2]int{0, 0}, [2]int{333332, 333333}, [2]int{666665, 666667}), 0)
	// 499997/499998 and 499998/499999 are no tie, but nearly one.
	wantWorst(t, trackWith([2]int{0, 0}, [2]int{499998, 1}, [2]int{999997, 2}), 1)
	wantWorst(t, trackWith([2]int{0, 0}, [2]int{499999, 1}, [2]int{999997, 2}), 0)
}

func TestAddClockMark(t *testing.T) {
	track := trackWith([2]int{100, 100}, [2]int{200, 210}, [2]int{300, 305})
	for at, marks := range [][]impl.ClockMark{
		trackWith([2]int{0, 0}, [2]int{99, 99}, [2]int{50, 99}, [2]int{99, 0}),
		trackWith([2]int{101, 101}, [2]int{150, 155}, [2]int{199, 209}, [2]int{101, 209}, [2]int{199, 101}),
		trackWith([2]int{201, 211}, [2]int{250, 260}, [2]int{299, 304}, [2]int{201, 304}, [2]int{299, 211}),
		trackWith([2]int{301, 306}, [2]int{5000, 4000}, [2]int{301, impl.MaxTick}, [2]int{impl.MaxTick, 306}, [2]int{impl.MaxTick, impl.MaxTick}),
	} {
		for _, m := range marks {
			got, ok := impl.AddClockMark(track, m)
			wantTrack(t, "AddClockMark", got, ok, slices.Insert(slices.Clone(track), at, m))
		}
	}
}

func TestAddClockMarkThatMakesNoTrack(t *testing.T) {
	track := trackWith([2]int{100, 100}, [2]int{200, 210}, [2]int{300, 305})
	for _, m := range trackWith(
		[2]int{100, 100}, [2]int{200, 210}, [2]int{300, 305}, [2]int{100, 99}, [2]int{100, 101}, [2]int{200, 209}, [2]int{200, 211}, [2]int{300, 306},
		[2]int{50, 100}, [2]int{50, 101}, [2]int{150, 100}, [2]int{150, 99}, [2]int{150, 210}, [2]int{150, 211}, [2]int{250, 210}, [2]int{250, 305}, [2]int{250, 306},
		[2]int{301, 305}, [2]int{301, 304}, [2]int{99, 500}, [2]int{400, 5}, [2]int{50, -1}, [2]int{-1, 50}, [2]int{400, impl.MaxTick + 1}, [2]int{impl.MaxTick + 1, 400},
	) {
		got, ok := impl.AddClockMark(track, m)
		wantNoTrack(t, "AddClockMark", got, ok)
	}
}

func TestAddClockMarkUntilTheTrackIsFull(t *testing.T) {
	whole := scatteredTrack(3, impl.MaxClockMarks, 10, 50)
	for at, m := range whole {
		got, ok := impl.AddClockMark(slices.Delete(slices.Clone(whole), at, at+1), m)
		wantTrack(t, "AddClockMark", got, ok, whole)
	}
	full := evenTrack(impl.MaxClockMarks, 10, 10)
	for _, m := range trackWith([2]int{50, 50}, [2]int{105, 205}, [2]int{155, 255}, [2]int{500, 500}) {
		got, ok := impl.AddClockMark(full, m)
		wantNoTrack(t, "AddClockMark", got, ok)
		got, ok = impl.AddClockMark(full[1:], m)
		if !ok || len(got) != impl.MaxClockMarks || !slices.Contains(got, m) {
			t.Error("the last mark that has room", m, got, ok)
		}
	}
}

// dropBy returns the marks of track that stay, as the document tells it.
func dropBy(track []impl.ClockMark, within int) []impl.ClockMark {
	removed := map[impl.ClockMark]bool{}
	for _, m := range track[1 : len(track)-1] {
		without := slices.DeleteFunc(slices.Clone(track), func(x impl.ClockMark) bool { return removed[x] || x == m })
		if far := m.True - timeBy(without, m.Shown); far <= within && -far <= within {
			removed[m] = true
		}
	}
	return slices.DeleteFunc(slices.Clone(track), func(x impl.ClockMark) bool { return removed[x] })
}

func TestDropMarks(t *testing.T) {
	track := trackWith([2]int{100, 100}, [2]int{200, 210}, [2]int{300, 305})
	ends := trackWith([2]int{100, 100}, [2]int{300, 305})
	for _, within := range []int{0, 1, 7} {
		wantDropped(t, track, within, track)
	}
	for _, within := range []int{8, 9, 1000} {
		wantDropped(t, track, within, ends)
	}
	below := trackWith([2]int{100, 100}, [2]int{200, 194}, [2]int{300, 305})
	wantDropped(t, below, 7, below)
	wantDropped(t, below, 8, ends)
	far := trackWith([2]int{0, 0}, [2]int{5000, 6000}, [2]int{10000, 10000})
	wantDropped(t, far, 999, far)
	wantDropped(t, far, 1000, trackWith([2]int{0, 0}, [2]int{10000, 10000}))
	farther := trackWith([2]int{0, 0}, [2]int{5000, 3999}, [2]int{10000, 10000})
	wantDropped(t, farther, 1000, farther)
}

func TestDropMarksOnTheLineOfTheirNeighbors(t *testing.T) {
	for n := 2; n <= impl.MaxClockMarks; n++ {
		for _, track := range [][]impl.ClockMark{evenTrack(n, 7, 3), evenTrack(n, 1, 1), evenTrack(n, 3, 700)} {
			for _, within := range []int{0, 1000} {
				wantDropped(t, track, within, []impl.ClockMark{track[0], track[n-1]})
			}
		}
	}
	// The true time between both ends is 3/2, rounded down 1.
	wantDropped(t, trackWith([2]int{0, 0}, [2]int{1, 1}, [2]int{2, 3}), 0, trackWith([2]int{0, 0}, [2]int{2, 3}))
	wantDropped(t, trackWith([2]int{0, 0}, [2]int{1, 2}, [2]int{2, 3}), 0, trackWith([2]int{0, 0}, [2]int{1, 2}, [2]int{2, 3}))
	wantDropped(t, trackWith([2]int{0, 0}, [2]int{1, 2}, [2]int{2, 3}), 1, trackWith([2]int{0, 0}, [2]int{2, 3}))
	// Only the third mark is on the line of its neighbors.
	wantDropped(t, trackWith([2]int{0, 0}, [2]int{10, 20}, [2]int{20, 25}, [2]int{30, 30}), 0, trackWith([2]int{0, 0}, [2]int{10, 20}, [2]int{30, 30}))
	wantDropped(t, trackWith([2]int{0, 5}, [2]int{10, 7}, [2]int{20, 25}, [2]int{30, 43}), 0, trackWith([2]int{0, 5}, [2]int{10, 7}, [2]int{30, 43}))
}

func TestDropMarksOnTheLineOnceOthersAreRemoved(t *testing.T) {
	// On the line from the second mark, the third one would be 3 ticks off.
	wantDropped(t, trackWith([2]int{0, 0}, [2]int{10, 9}, [2]int{20, 22}, [2]int{1020, 1020}), 2, trackWith([2]int{0, 0}, [2]int{1020, 1020}))
	wantDropped(t, trackWith([2]int{0, 0}, [2]int{10, 9}, [2]int{20, 22}, [2]int{1020, 1020}), 1, trackWith([2]int{0, 0}, [2]int{10, 9}, [2]int{20, 22}, [2]int{1020, 1020}))
	// On the line from the second mark, the third one would be 1 tick off, but from the first one it is 3.
	wantDropped(t, trackWith([2]int{0, 0}, [2]int{10, 13}, [2]int{20, 23}, [2]int{1020, 1020}), 2, trackWith([2]int{0, 0}, [2]int{20, 23}, [2]int{1020, 1020}))
	// Each of both inner marks may go alone; the first one does.
	wantDropped(t, trackWith([2]int{0, 0}, [2]int{10, 13}, [2]int{20, 23}, [2]int{30, 30}), 2, trackWith([2]int{0, 0}, [2]int{20, 23}, [2]int{30, 30}))
	// The second mark is on the line once the third one has been removed, but its turn is over then.
	wantDropped(t, trackWith([2]int{0, 0}, [2]int{10, 12}, [2]int{1000, 998}, [2]int{1010, 1010}), 2, trackWith([2]int{0, 0}, [2]int{10, 12}, [2]int{1010, 1010}))
}

// nearlyEven returns n marks that are less than span ticks off a line.
func nearlyEven(seed int, n int, span int) []impl.ClockMark {
	track := evenTrack(n, 40, 41+span)
	for i, off := range numbers(seed, n, span) {
		track[i].True += off
	}
	return track
}

func TestDropMarksOneByOne(t *testing.T) {
	tracks := goodTracks()
	for seed := range 200 {
		tracks = append(tracks, nearlyEven(seed, 3+seed%8, 2+seed%30))
	}
	for _, track := range tracks {
		for _, within := range []int{0, 1, 2, 3, 5, 8, 12, 20, 35, 60, 100, 400, 999, 1000} {
			wantDropped(t, track, within, dropBy(track, within))
		}
	}
}

func TestSpanOffsets(t *testing.T) {
	wantOffsets(t, trackWith([2]int{100, 100}, [2]int{200, 210}, [2]int{300, 305}), 0, 10)
	wantOffsets(t, trackWith([2]int{100, 50}, [2]int{200, 160}, [2]int{300, 200}), -100, -40)
	wantOffsets(t, trackWith([2]int{100, 105}, [2]int{200, 199}, [2]int{300, 303}), -1, 5)
	wantOffsets(t, trackWith([2]int{100, 190}, [2]int{200, 250}, [2]int{300, 320}), 20, 90)
	wantOffsets(t, trackWith([2]int{0, 0}, [2]int{1, impl.MaxTick}), 0, impl.MaxTick-1)
	wantOffsets(t, trackWith([2]int{0, 0}, [2]int{impl.MaxTick, 1}), 1-impl.MaxTick, 0)
	wantOffsets(t, trackWith([2]int{0, impl.MaxTick - 1}, [2]int{1, impl.MaxTick}), impl.MaxTick-1, impl.MaxTick-1)
	wantOffsets(t, trackWith([2]int{impl.MaxTick - 1, 0}, [2]int{impl.MaxTick, 1}), 1-impl.MaxTick, 1-impl.MaxTick)
	for _, track := range goodTracks() {
		offsets := []int{}
		for _, m := range track {
			offsets = append(offsets, m.True-m.Shown)
		}
		wantOffsets(t, track, slices.Min(offsets), slices.Max(offsets))
	}
}

func TestStepAt(t *testing.T) {
	// The offsets are 0, 10, 5, -5, -5 and 6.
	track := trackWith([2]int{100, 100}, [2]int{200, 210}, [2]int{300, 305}, [2]int{400, 395}, [2]int{500, 495}, [2]int{600, 606})
	for jump, want := range map[int][]int{0: {1, 2, 3, 5}, 4: {1, 2, 3, 5}, 5: {1, 3, 5}, 9: {1, 3, 5}, 10: {5}, 11: {}, 12: {}, impl.MaxTick: {}} {
		got, ok := impl.StepAt(track, jump)
		wantNumbers(t, "StepAt", got, ok, want)
	}
	for _, pair := range [][]impl.ClockMark{trackWith([2]int{0, 0}, [2]int{1, impl.MaxTick}), trackWith([2]int{0, 0}, [2]int{impl.MaxTick, 1})} {
		for jump, want := range map[int][]int{0: {1}, impl.MaxTick - 2: {1}, impl.MaxTick - 1: {}, impl.MaxTick: {}} {
			got, ok := impl.StepAt(pair, jump)
			wantNumbers(t, "StepAt", got, ok, want)
		}
	}
	for _, track := range goodTracks() {
		for _, jump := range []int{0, 1, 2, 5, 10, 30, 500, 5000, 50000} {
			want := []int{}
			for i := 1; i < len(track); i++ {
				grown := track[i].True - track[i].Shown - track[i-1].True + track[i-1].Shown
				if grown > jump || grown < -jump {
					want = append(want, i)
				}
			}
			got, ok := impl.StepAt(track, jump)
			wantNumbers(t, "StepAt", got, ok, want)
		}
	}
}

// wantMerged checks the result in both orders of the tracks.
func wantMerged(t *testing.T, a []impl.ClockMark, b []impl.ClockMark, want []impl.ClockMark) {
	t.Helper()
	got, ok := impl.MergeTracks(a, b)
	wantTrack(t, "MergeTracks", got, ok, want)
	got, ok = impl.MergeTracks(b, a)
	wantTrack(t, "MergeTracks", got, ok, want)
}

func wantNotMerged(t *testing.T, a []impl.ClockMark, b []impl.ClockMark) {
	t.Helper()
	got, ok := impl.MergeTracks(a, b)
	wantNoTrack(t, "MergeTracks", got, ok)
	got, ok = impl.MergeTracks(b, a)
	wantNoTrack(t, "MergeTracks", got, ok)
}

func TestMergeTracks(t *testing.T) {
	for _, track := range goodTracks() {
		wantMerged(t, track, track, track)
		for seed := range 20 {
			a, b := []impl.ClockMark{}, []impl.ClockMark{}
			for i, to := range numbers(seed, len(track), 3) {
				if to != 0 {
					a = append(a, track[i])
				}
				if to != 1 {
					b = append(b, track[i])
				}
			}
			if len(a) >= 2 && len(b) >= 2 {
				wantMerged(t, a, b, track)
			}
		}
	}
	early, late := evenTrack(3, 5, 5), trackWith([2]int{500, 400}, [2]int{600, 410})
	wantMerged(t, early, late, slices.Concat(early, late))
}

func TestMergeTracksThatAreTooMany(t *testing.T) {
	whole := evenTrack(11, 10, 10)
	wantNotMerged(t, whole[:6], whole[6:])
	wantNotMerged(t, whole[:9], whole[9:])
	wantNotMerged(t, whole[:7], whole[5:])
	wantNotMerged(t, whole[:10], whole[1:])
	wantMerged(t, whole[:5], whole[5:10], whole[:10])
	wantMerged(t, whole[1:8], whole[6:], whole[1:])
	wantMerged(t, whole[:10], whole[:10], whole[:10])
	wantMerged(t, whole[1:], whole[4:7], whole[1:])
}

func TestMergeTracksThatMakeNoTrack(t *testing.T) {
	track := trackWith([2]int{100, 100}, [2]int{200, 210}, [2]int{300, 305})
	for _, m := range trackWith([2]int{100, 99}, [2]int{100, 101}, [2]int{200, 209}, [2]int{200, 211}, [2]int{300, 304}, [2]int{300, 306}, [2]int{99, 100}, [2]int{101, 100}, [2]int{199, 210}, [2]int{201, 210}, [2]int{299, 305}, [2]int{301, 305}, [2]int{50, 101}, [2]int{150, 99}, [2]int{150, 211}, [2]int{250, 209}, [2]int{250, 306}, [2]int{400, 304}) {
		wantNotMerged(t, track, []impl.ClockMark{m, {Shown: 900, True: 900}})
		wantNotMerged(t, track, []impl.ClockMark{m, {Shown: impl.MaxTick, True: impl.MaxTick}})
	}
	wantNotMerged(t, track, trackWith([2]int{100, 101}, [2]int{300, 305}))
	wantNotMerged(t, trackWith([2]int{0, 10}, [2]int{10, 20}), trackWith([2]int{5, 9}, [2]int{15, 25}))
	wantNotMerged(t, trackWith([2]int{0, 10}, [2]int{10, 20}), trackWith([2]int{5, 15}, [2]int{9, 25}))
}

// withMarksBehind returns track with room behind it that other marks fill, and the whole.
func withMarksBehind(track []impl.ClockMark) ([]impl.ClockMark, []impl.ClockMark) {
	backing := append(slices.Clone(track), slices.Repeat([]impl.ClockMark{{Shown: 77, True: 77}}, 30)...)
	return backing[:len(track)], backing
}

// spoilMarks overwrites all that a result has, its room included.
func spoilMarks(list []impl.ClockMark) {
	whole := list[:cap(list)]
	for i := range whole {
		whole[i] = impl.ClockMark{Shown: -1, True: -1}
	}
}

func TestClockFunctionsKeepTheirArguments(t *testing.T) {
	for _, track := range append(goodTracks(), badTracks()[:20]...) {
		arg, backing := withMarksBehind(track)
		want := slices.Clone(backing)
		second, behind := withMarksBehind(track)
		impl.IsTrack(arg)
		impl.TrueTick(arg, 150)
		impl.ShownTick(arg, 150)
		impl.DriftsOf(arg)
		impl.WorstDrift(arg)
		impl.SpanOffsets(arg)
		impl.StepAt(arg, 3)
		for _, within := range []int{0, 1, 5, 1000} {
			kept, _ := impl.DropMarks(arg, within)
			spoilMarks(kept)
		}
		for _, m := range trackWith([2]int{0, 0}, [2]int{105, 205}, [2]int{impl.MaxTick, impl.MaxTick}) {
			added, _ := impl.AddClockMark(arg, m)
			spoilMarks(added)
		}
		for _, other := range [][]impl.ClockMark{second, second[:len(second)/2], trackWith([2]int{0, 0}, [2]int{1, 1})} {
			merged, _ := impl.MergeTracks(arg, other)
			spoilMarks(merged)
			merged, _ = impl.MergeTracks(other, arg)
			spoilMarks(merged)
		}
		if !slices.Equal(backing, want) || !slices.Equal(behind, want) {
			t.Errorf("an argument changed: %v, %v; want %v", backing, behind, want)
		}
	}
}

func TestClockFunctionsReadNothingBehindTheLength(t *testing.T) {
	for _, n := range []int{2, 3, 9} {
		whole := evenTrack(10, 10, 11)
		arg, track := whole[:n], slices.Clone(whole[:n])
		whole[n] = impl.ClockMark{Shown: 5, True: 5}
		for _, shown := range []int{50, 115, 185, 300, 5000} {
			wantTrueTick(t, arg, shown, timeBy(track, shown))
		}
		wantDropped(t, arg, 0, []impl.ClockMark{track[0], track[n-1]})
		wantMerged(t, arg, arg, track)
		wantOffsets(t, arg, 100, 100+n-1)
		at, ok := impl.StepAt(arg, 0)
		wantNumbers(t, "StepAt", at, ok, []int{1, 2, 3, 4, 5, 6, 7, 8}[:n-1])
	}
}
