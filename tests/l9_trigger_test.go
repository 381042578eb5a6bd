package tests

import (
	"math"
	"math/big"
	"slices"
	"testing"

	"loop.example/g01017/impl"
)

func settingOf(short int, long int, on int, off int) impl.Setting {
	return impl.Setting{Short: short, Long: long, On: on, Off: off}
}

// burst returns samples of which the loudest ones have both signs: with a Short of 1 and a Long of 4 they go on twice.
func burst() []int {
	return []int{1, -1, 1, -1, 10, -10, 1, 1, 1, 1, -9, 1}
}

// tremor returns n samples, most of them small and some of them loud, with both signs.
func tremor(seed int, n int) []int {
	raw := numbers(seed, 2*n, 1000)
	samples := []int{}
	for i := range n {
		x := raw[2*i]%7 - 3
		// The upper digits of the numbers look more scattered than the lower ones.
		if raw[2*i+1] > 800 {
			x = raw[2*i]*100/1000 - 50
		}
		samples = append(samples, x)
	}
	return samples
}

// triggerSamples returns samples for triggers: the lists of goodSamples, bursts, tremors, and all short ones of a few sizes.
func triggerSamples() [][]int {
	list := slices.Concat(goodSamples(), [][]int{burst(), make([]int, impl.MaxTrace), slices.Repeat([]int{-7}, impl.MaxTrace)}, signed(6, -2, 0, 3))
	for seed := range 120 {
		list = append(list, tremor(seed, impl.MaxTrace-seed%7))
	}
	for at := range impl.MaxTrace {
		alone := make([]int, impl.MaxTrace)
		alone[at] = 8 * (1 - 2*(at%2))
		list = append(list, alone)
	}
	return list
}

func goodSettings() []impl.Setting {
	return []impl.Setting{
		settingOf(1, 4, 20, 10), settingOf(1, 2, 10, 10), settingOf(1, 2, 15, 12), settingOf(1, 3, 16, 16), settingOf(2, 5, 15, 11), settingOf(2, 3, 12, 12),
		settingOf(3, 6, 14, 10), settingOf(1, 20, 100, 20), settingOf(5, 6, 10, 10), settingOf(5, 6, 11, 10), settingOf(5, 20, 13, 10), settingOf(5, 20, 40, 40),
		settingOf(1, 20, 200, 200), settingOf(1, 20, 201, 10), settingOf(1, 20, 1000, 1000), settingOf(1, 2, 1000, 10), settingOf(4, 9, 1000, 999), settingOf(1, 2, 20, 20),
	}
}

// badSettings returns Settings that are not valid, each for one reason.
func badSettings() []impl.Setting {
	bad := []impl.Setting{{}, settingOf(0, 2, 20, 10), settingOf(0, 1, 20, 10), settingOf(6, 7, 20, 10), settingOf(5, 21, 20, 10)}
	for short := 1; short <= 5; short++ {
		for long := 0; long <= short; long++ {
			bad = append(bad, settingOf(short, long, 20, 10))
		}
	}
	bad = append(bad, settingOf(1, 4, 20, 21), settingOf(1, 4, 10, 11), settingOf(1, 4, 1000, 1001), settingOf(1, 4, 1001, 1001), settingOf(1, 4, 9, 9), settingOf(1, 4, 9, 10), settingOf(1, 4, 10, 9))
	for _, n := range beyond(1, 5) {
		bad = append(bad, settingOf(n, 20, 20, 10))
	}
	for _, n := range beyond(2, 20) {
		bad = append(bad, settingOf(1, n, 20, 10))
	}
	for _, n := range beyond(10, 1000) {
		bad = append(bad, settingOf(1, 4, n, 10))
	}
	for _, n := range beyond(10, 20) {
		bad = append(bad, settingOf(1, 4, 20, n))
	}
	return bad
}

// meanBy returns the mean without signs of the n samples up to a place.
func meanBy(x []int, place int, n int) *big.Rat {
	mean := new(big.Rat)
	for back := range n {
		loud := new(big.Rat).Abs(big.NewRat(int64(x[place-back]), int64(n)))
		mean.Add(mean, loud)
	}
	return mean
}

// ratioBy returns the ratio at a place that has one.
func ratioBy(x []int, s impl.Setting, place int) *big.Rat {
	short, long := meanBy(x, place, s.Short), meanBy(x, place, s.Long)
	if short.Sign() == 0 && long.Sign() == 0 {
		return short
	}
	return short.Quo(short, long)
}

func tenths(n int) *big.Rat {
	return big.NewRat(int64(n), 10)
}

// statesBy tells for each place whether a trigger is on, going through the samples once.
func statesBy(x []int, s impl.Setting) []bool {
	on, states := false, []bool{}
	for place := range x {
		if place >= s.Long-1 {
			ratio := ratioBy(x, s, place)
			if on {
				on = ratio.Cmp(tenths(s.Off)) > 0
			} else {
				on = ratio.Cmp(tenths(s.On)) >= 0
			}
		}
		states = append(states, on)
	}
	return states
}

// timesBy returns the runs of places at which a trigger is on.
func timesBy(x []int, s impl.Setting) [][2]int {
	times := [][2]int{}
	before := false
	for place, on := range statesBy(x, s) {
		if on && !before {
			times = append(times, [2]int{place, place})
		}
		if on {
			times[len(times)-1][1] = place + 1
		}
		before = on
	}
	return times
}

func wantRatio(t *testing.T, x []int, s impl.Setting, place int, num int, den int) {
	t.Helper()
	if a, b, ok := impl.RatioAt(x, s, place); !ok || a != num || b != den {
		t.Errorf("RatioAt(%v, %v, %d) = %d, %d, %v; want %d, %d, true", x, s, place, a, b, ok, num, den)
	}
}

func wantNoRatio(t *testing.T, x []int, s impl.Setting, place int) {
	t.Helper()
	a, b, ok := impl.RatioAt(x, s, place)
	wantNoFraction(t, "RatioAt", a, b, ok)
}

// wantTimes checks Triggered, OnPlaces, IsOnAt at each place and LongestOn.
func wantTimes(t *testing.T, x []int, s impl.Setting, want ...[2]int) {
	t.Helper()
	if got, ok := impl.Triggered(x, s); !ok || !slices.Equal(got, want) {
		t.Errorf("Triggered(%v, %v) = %v, %v; want %v, true", x, s, got, ok, want)
	}
	firsts, states := []int{}, make([]bool, len(x))
	longest := [2]int{}
	for _, time := range want {
		firsts = append(firsts, time[0])
		for place := time[0]; place < time[1]; place++ {
			states[place] = true
		}
		if time[1]-time[0] > longest[1] {
			longest = [2]int{time[0], time[1] - time[0]}
		}
	}
	got, ok := impl.OnPlaces(x, s)
	wantNumbers(t, "OnPlaces", got, ok, firsts)
	for place, state := range states {
		if on, ok := impl.IsOnAt(x, s, place); !ok || on != state {
			t.Errorf("IsOnAt(%v, %v, %d) = %v, %v; want %v, true", x, s, place, on, ok, state)
		}
	}
	if first, n, ok := impl.LongestOn(x, s); first != longest[0] || n != longest[1] || ok != (len(want) > 0) {
		t.Errorf("LongestOn(%v, %v) = %d, %d, %v; want %v, %v", x, s, first, n, ok, longest, len(want) > 0)
	}
}

func wantGreatest(t *testing.T, x []int, s impl.Setting, place int, num int, den int) {
	t.Helper()
	if at, a, b, ok := impl.GreatestRatio(x, s); !ok || at != place || a != num || b != den {
		t.Errorf("GreatestRatio(%v, %v) = %d, %d, %d, %v; want %d, %d, %d, true", x, s, at, a, b, ok, place, num, den)
	}
}

func wantNoGreatest(t *testing.T, x []int, s impl.Setting) {
	t.Helper()
	if at, a, b, ok := impl.GreatestRatio(x, s); ok || at != 0 || a != 0 || b != 0 {
		t.Errorf("GreatestRatio(%v, %v) = %d, %d, %d, %v; want 0, 0, 0, false", x, s, at, a, b, ok)
	}
}

func wantLeastOn(t *testing.T, x []int, s impl.Setting, want int) {
	t.Helper()
	if n, ok := impl.LeastOn(x, s); !ok || n != want {
		t.Errorf("LeastOn(%v, %v) = %d, %v; want %d, true", x, s, n, ok, want)
	}
}

func wantMotion(t *testing.T, x []int, s impl.Setting, want int) {
	t.Helper()
	if n, ok := impl.FirstMotion(x, s); !ok || n != want {
		t.Errorf("FirstMotion(%v, %v) = %d, %v; want %d, true", x, s, n, ok, want)
	}
}

func wantNoMotion(t *testing.T, x []int, s impl.Setting) {
	t.Helper()
	if n, ok := impl.FirstMotion(x, s); ok || n != 0 {
		t.Errorf("FirstMotion(%v, %v) = %d, %v; want 0, false", x, s, n, ok)
	}
}

// wantNothing checks that each function fails at all places.
func wantNothing(t *testing.T, x []int, s impl.Setting) {
	t.Helper()
	places, ok := impl.OnPlaces(x, s)
	wantNoNumbers(t, "OnPlaces", places, ok)
	if times, ok := impl.Triggered(x, s); ok || len(times) != 0 {
		t.Errorf("Triggered(%.60v, %v) = %v, %v; want none, false", x, s, times, ok)
	}
	first, n, ok := impl.LongestOn(x, s)
	wantNoFraction(t, "LongestOn", first, n, ok)
	wantNoGreatest(t, x, s)
	wantNoMotion(t, x, s)
	if n, ok := impl.LeastOn(x, s); ok || n != 0 {
		t.Errorf("LeastOn(%.60v, %v) = %d, %v; want 0, false", x, s, n, ok)
	}
	for place := range 30 {
		wantNoRatio(t, x, s, place)
		wantNoState(t, x, s, place)
	}
}

// wantNoState checks that IsOnAt fails.
func wantNoState(t *testing.T, x []int, s impl.Setting, place int) {
	t.Helper()
	if on, ok := impl.IsOnAt(x, s, place); ok || on {
		t.Errorf("IsOnAt(%.60v, %v, %d) = %v, %v; want false, false", x, s, place, on, ok)
	}
}

func TestIsSetting(t *testing.T) {
	for _, s := range goodSettings() {
		if !impl.IsSetting(s) {
			t.Errorf("IsSetting(%v) = false", s)
		}
	}
	for _, s := range badSettings() {
		if impl.IsSetting(s) {
			t.Errorf("IsSetting(%v) = true", s)
		}
	}
}

func TestIsSettingWindows(t *testing.T) {
	for short := -3; short <= 10; short++ {
		for long := -3; long <= 30; long++ {
			want := 1 <= short && short <= 5 && 1 <= long && long <= 20 && short < long
			if got := impl.IsSetting(settingOf(short, long, 20, 10)); got != want {
				t.Errorf("IsSetting of Short %d and Long %d = %v", short, long, got)
			}
		}
	}
}

func TestIsSettingThresholds(t *testing.T) {
	edges := []int{-10, -1, 0, 1, 8, 9, 10, 11, 12, 99, 100, 101, 500, 998, 999, 1000, 1001, 1002, 5000}
	for _, on := range edges {
		for _, off := range edges {
			want := 10 <= on && on <= 1000 && 10 <= off && off <= on
			if got := impl.IsSetting(settingOf(1, 4, on, off)); got != want {
				t.Errorf("IsSetting of On %d and Off %d = %v", on, off, got)
			}
		}
	}
}

func TestTriggerFunctionsFailForInvalidSettings(t *testing.T) {
	for _, s := range badSettings() {
		for _, x := range [][]int{nil, {}, {5}, {0, 0}, burst(), ramp(impl.MaxTrace)} {
			wantNothing(t, x, s)
		}
	}
}

func TestTriggerFunctionsFailForInvalidSamples(t *testing.T) {
	for _, x := range badSamples() {
		for _, s := range goodSettings() {
			wantNothing(t, x, s)
		}
	}
}

func TestTriggerFunctionsFailForPlacesThatDoNotOccur(t *testing.T) {
	for _, s := range goodSettings() {
		for _, x := range [][]int{nil, {}, {5}, {1, 9}, burst(), ramp(impl.MaxTrace)} {
			for _, place := range append(beyond(0, len(x)-1), -20) {
				wantNoRatio(t, x, s, place)
				wantNoState(t, x, s, place)
			}
		}
	}
}

func TestRatioAt(t *testing.T) {
	s := settingOf(1, 4, 20, 10)
	wantRatio(t, burst(), s, 3, 1, 1)
	wantRatio(t, burst(), s, 4, 40, 13)
	wantRatio(t, burst(), s, 5, 20, 11)
	wantRatio(t, burst(), s, 6, 2, 11)
	wantRatio(t, burst(), s, 11, 1, 3)
	wantNoRatio(t, burst(), s, 2)
	wantNoRatio(t, burst(), s, 12)
	wantNoRatio(t, burst(), s, -1)
	s = settingOf(2, 5, 15, 11)
	wantNoRatio(t, burst(), s, 3)
	wantRatio(t, burst(), s, 4, 55, 28)
	wantRatio(t, burst(), s, 5, 50, 23)
	// The thresholds play no part.
	for _, on := range []int{10, 20, 1000} {
		wantRatio(t, burst(), settingOf(2, 5, on, 10), 5, 50, 23)
		wantRatio(t, burst(), settingOf(2, 5, on, on), 5, 50, 23)
	}
	// The greatest windows, and the greatest and the least ratio.
	wantRatio(t, append(make([]int, 19), -6), settingOf(1, 20, 20, 10), 19, 20, 1)
	wantRatio(t, append(make([]int, 19), -6), settingOf(5, 20, 20, 10), 19, 4, 1)
	wantRatio(t, slices.Repeat([]int{-impl.MaxSample, impl.MaxSample}, 12), settingOf(5, 20, 20, 10), 23, 1, 1)
	wantRatio(t, append([]int{1}, slices.Repeat([]int{impl.MaxSample}, 5)...), settingOf(5, 6, 20, 10), 5, 200000, 166667)
}

func TestRatioAtSilence(t *testing.T) {
	wantRatio(t, []int{0, 0}, settingOf(1, 2, 20, 10), 1, 0, 1)
	wantRatio(t, make([]int, impl.MaxTrace), settingOf(5, 20, 20, 10), 23, 0, 1)
	wantRatio(t, []int{7, 0, 0, 0}, settingOf(2, 3, 20, 10), 3, 0, 1)
	// Just the short mean is 0.
	wantRatio(t, []int{7, 0}, settingOf(1, 2, 20, 10), 1, 0, 1)
	wantRatio(t, []int{7, -7, 0, 0}, settingOf(2, 3, 20, 10), 3, 0, 1)
	wantRatio(t, append([]int{-1}, make([]int, 19)...), settingOf(5, 20, 20, 10), 19, 0, 1)
}

func TestRatioAtWithSigns(t *testing.T) {
	s := settingOf(2, 4, 20, 10)
	want := []int{5, 4}
	for _, signs := range signed(4, -1, 1) {
		x := []int{2 * signs[0], 4 * signs[1], 3 * signs[2], 7 * signs[3]}
		wantRatio(t, x, s, 3, want[0], want[1])
	}
	// The sums with signs would be 0.
	wantRatio(t, []int{4, -4, 6, -6}, s, 3, 6, 5)
}

func TestRatioAtEachPlace(t *testing.T) {
	for _, x := range triggerSamples() {
		for _, s := range goodSettings() {
			for place := -1; place <= len(x)+1; place++ {
				if place < s.Long-1 || place >= len(x) {
					wantNoRatio(t, x, s, place)
					continue
				}
				num, den, ok := impl.RatioAt(x, s, place)
				wantFraction(t, "RatioAt", num, den, ok, ratioBy(x, s, place))
			}
		}
	}
}

func TestTriggered(t *testing.T) {
	wantTimes(t, burst(), settingOf(1, 4, 20, 10), [2]int{4, 6}, [2]int{10, 11})
	wantTimes(t, burst(), settingOf(1, 4, 30, 10), [2]int{4, 6}, [2]int{10, 11})
	wantTimes(t, burst(), settingOf(1, 4, 31, 10))
	wantTimes(t, burst(), settingOf(2, 5, 19, 10), [2]int{4, 7}, [2]int{10, 12})
	// It goes on at the first possible place, and at the last one.
	wantTimes(t, []int{1, 1, 9, 1}, settingOf(1, 3, 20, 10), [2]int{2, 3})
	wantTimes(t, []int{1, 1, 1, 9}, settingOf(1, 3, 20, 10), [2]int{3, 4})
	wantTimes(t, []int{1, 1, 9}, settingOf(1, 3, 20, 10), [2]int{2, 3})
	// It does not go off.
	wantTimes(t, []int{1, 1, 4, 9, 30, 99}, settingOf(1, 3, 20, 10), [2]int{2, 6})
	// It goes off and on again.
	wantTimes(t, []int{1, 1, 9, 1, 1, 9, 1, 1, -9}, settingOf(1, 3, 20, 10), [2]int{2, 3}, [2]int{5, 6}, [2]int{8, 9})
	wantTimes(t, []int{1, 5, 1, 5, 1, 5}, settingOf(1, 2, 15, 10), [2]int{1, 2}, [2]int{3, 4}, [2]int{5, 6})
	// It never goes on.
	wantTimes(t, []int{9, 8, 7, 6}, settingOf(1, 2, 10, 10))
	wantTimes(t, make([]int, impl.MaxTrace), settingOf(1, 2, 10, 10))
	wantTimes(t, burst(), settingOf(1, 4, 1000, 10))
	// A loud place that comes before there are enough samples does not count.
	wantTimes(t, []int{0, 99, 1, 1}, settingOf(1, 3, 20, 10))
	wantTimes(t, []int{0, 99, 90, 1}, settingOf(1, 4, 20, 10))
}

func TestTriggeredJustAtOn(t *testing.T) {
	// The ratio 3/2, with On just there and one tenth above.
	wantTimes(t, []int{1, 3}, settingOf(1, 2, 15, 10), [2]int{1, 2})
	wantTimes(t, []int{1, -3}, settingOf(1, 2, 16, 10))
	wantTimes(t, []int{3, 7}, settingOf(1, 2, 14, 10), [2]int{1, 2})
	wantTimes(t, []int{3, 7}, settingOf(1, 2, 15, 10))
	// A ratio that is less than a tenth away.
	wantTimes(t, []int{33333, 99999}, settingOf(1, 2, 15, 10), [2]int{1, 2})
	wantTimes(t, []int{33333, 99998}, settingOf(1, 2, 15, 10))
	wantTimes(t, []int{33332, 99999}, settingOf(1, 2, 15, 10), [2]int{1, 2})
	wantTimes(t, []int{33334, 99999}, settingOf(1, 2, 15, 10))
	// The least threshold, and the greatest ratio of all.
	wantTimes(t, []int{6, 6}, settingOf(1, 2, 10, 10), [2]int{1, 2})
	wantTimes(t, []int{6, 5}, settingOf(1, 2, 10, 10))
	wantTimes(t, append(make([]int, 19), 1), settingOf(1, 20, 200, 10), [2]int{19, 20})
	wantTimes(t, append(make([]int, 19), 1), settingOf(1, 20, 201, 10))
}

func TestTriggeredJustAtOff(t *testing.T) {
	// The ratio 6/5 behind 3/2, with Off just there, and 13/10 behind 14/9, one tenth above Off.
	wantTimes(t, []int{2, 6, 9}, settingOf(1, 2, 15, 12), [2]int{1, 2})
	wantTimes(t, []int{2, -7, 13}, settingOf(1, 2, 15, 12), [2]int{1, 3})
	wantTimes(t, []int{2, 6, 9}, settingOf(1, 2, 15, 11), [2]int{1, 3})
	wantTimes(t, []int{2, -7, 13}, settingOf(1, 2, 15, 13), [2]int{1, 2})
	// A ratio that is less than a tenth away.
	wantTimes(t, []int{1000, 60000, 90000}, settingOf(1, 2, 15, 12), [2]int{1, 2})
	wantTimes(t, []int{1000, 60000, 90001}, settingOf(1, 2, 15, 12), [2]int{1, 3})
	wantTimes(t, []int{1000, 60000, 89999}, settingOf(1, 2, 15, 12), [2]int{1, 2})
	wantTimes(t, []int{1000, 60001, 90000}, settingOf(1, 2, 15, 12), [2]int{1, 2})
	wantTimes(t, []int{1000, 59999, 90000}, settingOf(1, 2, 15, 12), [2]int{1, 3})
	// The least threshold.
	wantTimes(t, []int{1, 6, 6}, settingOf(1, 2, 15, 10), [2]int{1, 2})
	wantTimes(t, []int{1, 6, 7}, settingOf(1, 2, 15, 10), [2]int{1, 3})
	// Between the thresholds nothing changes, neither while it is on nor while it is off.
	wantTimes(t, []int{4, 6, 9, 13, 40, 56, 79}, settingOf(1, 2, 15, 11), [2]int{4, 7})
	wantTimes(t, []int{3, 9, 12, 15, 2, 2, 2}, settingOf(1, 2, 15, 11), [2]int{1, 4})
}

func TestTriggeredWithOnEqualToOff(t *testing.T) {
	// Each ratio is at both thresholds, but at a place it changes just once.
	wantTimes(t, []int{1, 1}, settingOf(1, 2, 10, 10), [2]int{1, 2})
	wantTimes(t, []int{1, -1, 1}, settingOf(1, 2, 10, 10), [2]int{1, 2})
	wantTimes(t, []int{1, 1, 1, 1, -1, 1}, settingOf(1, 2, 10, 10), [2]int{1, 2}, [2]int{3, 4}, [2]int{5, 6})
	wantTimes(t, []int{1, 3, 9, 27, 81}, settingOf(1, 2, 15, 15), [2]int{1, 2}, [2]int{3, 4})
	wantTimes(t, []int{1, 3, 9, 28, 81}, settingOf(1, 2, 15, 15), [2]int{1, 2}, [2]int{3, 4})
	wantTimes(t, []int{1, 3, 10, 30, 90}, settingOf(1, 2, 15, 15), [2]int{1, 3}, [2]int{4, 5})
	wantTimes(t, make([]int, 5), settingOf(1, 2, 10, 10))
	silent := append(make([]int, 19), 5, 0, 0)
	wantTimes(t, silent, settingOf(1, 20, 200, 200), [2]int{19, 20})
	wantTimes(t, append([]int{0}, silent...), settingOf(1, 20, 200, 200), [2]int{20, 21})
}

func TestTriggeredOnFewSamples(t *testing.T) {
	for _, s := range goodSettings() {
		for n := range s.Long {
			loud := slices.Repeat([]int{1}, n)
			if n > 0 {
				loud[n-1] = -impl.MaxSample
			}
			wantTimes(t, loud, s)
			wantNoMotion(t, loud, s)
			wantNoGreatest(t, loud, s)
			wantLeastOn(t, loud, s, s.Off)
			for place := range n {
				wantNoRatio(t, loud, s, place)
			}
		}
		// Just as many as there have to be.
		x := slices.Repeat([]int{3}, s.Long)
		wantRatio(t, x, s, s.Long-1, 1, 1)
		wantGreatest(t, x, s, s.Long-1, 1, 1)
		wantTimes(t, x, s, timesBy(x, s)...)
	}
	wantTimes(t, nil, settingOf(1, 2, 10, 10))
	wantTimes(t, []int{5}, settingOf(1, 2, 10, 10))
	wantTimes(t, []int{5, 5}, settingOf(1, 2, 10, 10), [2]int{1, 2})
}

func TestTriggeredEverywhere(t *testing.T) {
	seen := map[int]int{}
	for _, x := range triggerSamples() {
		for _, s := range goodSettings() {
			want := timesBy(x, s)
			seen[min(3, len(want))]++
			wantTimes(t, x, s, want...)
		}
	}
	for n := range 4 {
		if seen[n] < 50 {
			t.Error("too few samples that go on", n, "times", seen)
		}
	}
}

// Promise 9.
func TestATriggerIsOnOnlyBetweenOnAndOff(t *testing.T) {
	on := 0
	for _, x := range triggerSamples() {
		for _, s := range goodSettings() {
			firsts, ok := impl.OnPlaces(x, s)
			if !ok || !slices.IsSorted(firsts) {
				t.Fatalf("OnPlaces(%v, %v) = %v, %v", x, s, firsts, ok)
			}
			wasOn := false
			for place := range x {
				is, ok := impl.IsOnAt(x, s, place)
				if !ok || is && place < s.Long-1 {
					t.Fatalf("IsOnAt(%v, %v, %d) = %v, %v", x, s, place, is, ok)
				}
				if goes := slices.Contains(firsts, place); goes != (is && !wasOn) {
					t.Errorf("at %d of %v, with %v, it is on: %v, was on: %v, goes on: %v", place, x, s, is, wasOn, goes)
				}
				if place >= s.Long-1 {
					ratio := ratioBy(x, s, place)
					loud, quiet := ratio.Cmp(tenths(s.On)) >= 0, ratio.Cmp(tenths(s.Off)) <= 0
					if !wasOn && is != loud || wasOn && is == quiet {
						t.Errorf("at %d of %v, with %v, it is on: %v, was on: %v, and the ratio is %v", place, x, s, is, wasOn, ratio)
					}
				}
				if is {
					on++
				}
				wasOn = is
			}
		}
	}
	if on < 1000 {
		t.Error("on at only", on, "places")
	}
}

func TestTimesOfATriggerDoNotTouch(t *testing.T) {
	for _, x := range triggerSamples() {
		for _, s := range goodSettings() {
			times, ok := impl.Triggered(x, s)
			before := s.Long - 2
			for _, time := range times {
				if time[0] <= before || time[1] <= time[0] || time[1] > len(x) {
					t.Errorf("Triggered(%v, %v) = %v, %v", x, s, times, ok)
				}
				before = time[1]
			}
		}
	}
}

func TestIsOnAtTheEdges(t *testing.T) {
	s := settingOf(1, 4, 20, 10)
	for place, want := range []bool{false, false, false, false, true, true, false, false, false, false, true, false} {
		if on, ok := impl.IsOnAt(burst(), s, place); !ok || on != want {
			t.Errorf("IsOnAt at %d = %v, %v; want %v, true", place, on, ok, want)
		}
	}
	wantNoState(t, burst(), s, -1)
	wantNoState(t, burst(), s, len(burst()))
	wantNoState(t, nil, s, 0)
	// While it does not go off, it is on at the last place, and not behind it.
	if on, ok := impl.IsOnAt([]int{1, 1, 1, 9}, s, 3); !ok || !on {
		t.Error("not on at the last place", on, ok)
	}
	wantNoState(t, []int{1, 1, 1, 9}, s, 4)
}

func TestLongestOn(t *testing.T) {
	wantLongest := func(x []int, s impl.Setting, place int, n int) {
		t.Helper()
		if first, length, ok := impl.LongestOn(x, s); !ok || first != place || length != n {
			t.Errorf("LongestOn(%v, %v) = %d, %d, %v; want %d, %d, true", x, s, first, length, ok, place, n)
		}
	}
	s := settingOf(1, 2, 15, 10)
	wantLongest(burst(), settingOf(1, 4, 20, 10), 4, 2)
	wantLongest([]int{1, 5, 1, 5, 8, 1, 5, 1}, s, 3, 2)
	wantLongest([]int{1, 5, 1, 5, 1, 5, 8, 9}, s, 5, 3)
	wantLongest([]int{1, 5, 6, 7, 1, 5, 1}, s, 1, 3)
	// Of two with the same length it is the first one.
	wantLongest([]int{1, 5, 1, 5, 1}, s, 1, 1)
	wantLongest([]int{1, 5, 1, 5, 8, 1, 5, 8}, s, 3, 2)
	wantLongest([]int{1, 5, 8, 1, 5, 8}, s, 1, 2)
	wantLongest([]int{1, 5}, s, 1, 1)
	for _, x := range [][]int{nil, {1}, {1, 1}, {9, 8, 7}, {1, 2, 3, 3, 2, 1}} {
		first, n, ok := impl.LongestOn(x, s)
		wantNoFraction(t, "LongestOn", first, n, ok)
	}
}

func TestGreatestRatio(t *testing.T) {
	s := settingOf(1, 4, 20, 10)
	wantGreatest(t, burst(), s, 4, 40, 13)
	wantGreatest(t, burst(), settingOf(2, 5, 20, 10), 5, 50, 23)
	wantGreatest(t, []int{1, 1, 9}, settingOf(1, 2, 20, 10), 2, 9, 5)
	wantGreatest(t, []int{0, 9, 1}, settingOf(1, 2, 20, 10), 1, 2, 1)
	// Of two with the same ratio it is the first one, also where the samples are not the same.
	wantGreatest(t, []int{1, 3, 1, 3, 1}, settingOf(1, 2, 20, 10), 1, 3, 2)
	wantGreatest(t, []int{4, 2, -6, 3, -9, 6}, settingOf(1, 2, 20, 10), 2, 3, 2)
	wantGreatest(t, slices.Repeat([]int{7}, impl.MaxTrace), s, 3, 1, 1)
	wantGreatest(t, make([]int, impl.MaxTrace), s, 3, 0, 1)
	wantGreatest(t, []int{49999, 100000, 0, 49998, 99998, 1}, settingOf(1, 2, 20, 10), 3, 2, 1)
	// The ratios differ by less than floating-point numbers of 32 bits show.
	wantGreatest(t, []int{50000, 99999, 49999, 99997}, settingOf(1, 2, 20, 10), 1, 199998, 149999)
	wantGreatest(t, []int{49999, 99997, 50000, 99999}, settingOf(1, 2, 20, 10), 3, 199998, 149999)
	wantNoGreatest(t, burst()[:3], s)
	wantGreatest(t, burst()[:4], s, 3, 1, 1)
	wantNoGreatest(t, nil, s)
}

func TestGreatestRatioEverywhere(t *testing.T) {
	for _, x := range triggerSamples() {
		for _, s := range goodSettings() {
			if len(x) < s.Long {
				wantNoGreatest(t, x, s)
				continue
			}
			at, greatest := s.Long-1, ratioBy(x, s, s.Long-1)
			for place := len(x) - 1; place >= s.Long-1; place-- {
				if ratio := ratioBy(x, s, place); ratio.Cmp(greatest) > 0 || place < at && ratio.Cmp(greatest) == 0 {
					at, greatest = place, ratio
				}
			}
			wantGreatest(t, x, s, at, int(greatest.Num().Int64()), int(greatest.Denom().Int64()))
		}
	}
}

func TestLeastOn(t *testing.T) {
	wantLeastOn(t, burst(), settingOf(1, 4, 20, 10), 31)
	// At a threshold the trigger goes on, so that one tenth more is needed.
	wantLeastOn(t, []int{1, 3}, settingOf(1, 2, 20, 10), 16)
	wantLeastOn(t, []int{33333, 99998}, settingOf(1, 2, 20, 10), 15)
	wantLeastOn(t, []int{33332, 99999}, settingOf(1, 2, 20, 10), 16)
	// The least one, and one more than that.
	wantLeastOn(t, []int{9, 8, 7}, settingOf(1, 2, 20, 10), 10)
	wantLeastOn(t, make([]int, 24), settingOf(1, 2, 20, 10), 10)
	wantLeastOn(t, []int{8, 8, 7}, settingOf(1, 2, 20, 10), 11)
	wantLeastOn(t, nil, settingOf(1, 2, 20, 10), 10)
	// Off, one more than Off, and less than Off without it.
	wantLeastOn(t, []int{1, 3}, settingOf(1, 2, 20, 16), 16)
	wantLeastOn(t, []int{1, 3}, settingOf(1, 2, 20, 15), 16)
	wantLeastOn(t, []int{1, 3}, settingOf(1, 2, 20, 17), 17)
	wantLeastOn(t, []int{1, 3}, settingOf(1, 2, 15, 15), 16)
	// The greatest one, to which only Off leads: no ratio is greater than 20.
	wantLeastOn(t, []int{1, 3}, settingOf(1, 2, 1000, 1000), 1000)
	wantLeastOn(t, nil, settingOf(1, 2, 1000, 1000), 1000)
	wantLeastOn(t, []int{1, 3}, settingOf(1, 2, 1000, 999), 999)
	loudest := append(make([]int, 19), 7)
	wantLeastOn(t, loudest, settingOf(1, 20, 1000, 10), 201)
	wantLeastOn(t, loudest, settingOf(1, 20, 1000, 1000), 1000)
	wantLeastOn(t, loudest, settingOf(1, 20, 200, 200), 201)
	wantLeastOn(t, loudest[1:], settingOf(1, 20, 200, 200), 200)
}

func TestLeastOnEverywhere(t *testing.T) {
	seen := map[string]int{}
	for _, x := range triggerSamples() {
		for _, s := range goodSettings() {
			// On itself plays no part, so that it may be smaller or greater than the result.
			least, ok := impl.LeastOn(x, s)
			if !ok || least < s.Off || least > max(201, s.Off) {
				t.Fatalf("LeastOn(%v, %v) = %d, %v", x, s, least, ok)
			}
			s.On = least
			wantTimes(t, x, s)
			if least == s.Off {
				seen["Off"]++
				continue
			}
			seen["above"]++
			s.On = least - 1
			if places, ok := impl.OnPlaces(x, s); !ok || len(places) == 0 {
				t.Errorf("LeastOn of %v and %v is %d, but with one less it goes on nowhere", x, s, least)
			}
		}
	}
	if seen["Off"] < 100 || seen["above"] < 100 {
		t.Error("too few of one kind", seen)
	}
}

func TestFirstMotion(t *testing.T) {
	wantMotion(t, burst(), settingOf(1, 4, 20, 10), 1)
	s := settingOf(1, 3, 20, 10)
	wantMotion(t, []int{1, 1, 9}, s, 1)
	wantMotion(t, []int{1, 1, -9}, s, -1)
	wantMotion(t, []int{1, -1, 9}, s, 1)
	wantMotion(t, []int{-1, -1, -9}, s, -1)
	wantMotion(t, []int{1, -1, -9}, s, -1)
	wantMotion(t, []int{0, 0, impl.MaxSample}, s, 1)
	wantMotion(t, []int{0, 0, -impl.MaxSample}, s, -1)
	wantMotion(t, []int{0, -impl.MaxSample, impl.MaxSample}, settingOf(1, 3, 15, 10), 1)
	// The same sample as before, with a short window that has both.
	wantMotion(t, []int{1, 1, 5, 5}, settingOf(2, 4, 16, 10), 0)
	wantMotion(t, []int{1, 1, -5, -5}, settingOf(2, 4, 16, 10), 0)
	wantMotion(t, []int{1, 1, 5, -5}, settingOf(2, 4, 16, 10), -1)
	wantMotion(t, []int{1, 1, -5, 5}, settingOf(2, 4, 16, 10), 1)
	wantMotion(t, []int{3, 3}, settingOf(1, 2, 10, 10), 0)
	// A smaller sample than before, though both means are loud enough.
	wantMotion(t, []int{1, 1, 9, 5}, settingOf(2, 4, 16, 10), -1)
	// Only the first place counts.
	wantMotion(t, []int{1, 1, 9, 1, 1, -9}, s, 1)
	wantMotion(t, []int{1, 1, -9, 1, 1, 9}, s, -1)
	wantNoMotion(t, []int{1, 1, 1, 1}, s)
	wantNoMotion(t, []int{1, 9}, s)
	wantNoMotion(t, nil, s)
	wantNoMotion(t, make([]int, impl.MaxTrace), s)
}

func TestFirstMotionEverywhere(t *testing.T) {
	seen := map[int]int{}
	for _, x := range triggerSamples() {
		for _, s := range goodSettings() {
			times := timesBy(x, s)
			if len(times) == 0 {
				wantNoMotion(t, x, s)
				continue
			}
			at := times[0][0]
			step := big.NewInt(int64(x[at] - x[at-1])).Sign()
			seen[step]++
			wantMotion(t, x, s, step)
		}
	}
	if min(seen[-1], seen[0], seen[1]) < 50 {
		t.Error("too few motions of one kind", seen)
	}
}

// callTriggerFunctions calls each function of the chapter, at places of all kinds, and spoils what they return.
func callTriggerFunctions(x []int, s impl.Setting) {
	impl.LongestOn(x, s)
	impl.GreatestRatio(x, s)
	impl.LeastOn(x, s)
	impl.FirstMotion(x, s)
	for _, place := range []int{math.MinInt, -1, 0, 1, 3, 19, 23, 24, math.MaxInt} {
		impl.RatioAt(x, s, place)
		impl.IsOnAt(x, s, place)
	}
	places, _ := impl.OnPlaces(x, s)
	places = places[:cap(places)]
	for i := range places {
		places[i] = 9
	}
	times, _ := impl.Triggered(x, s)
	times = times[:cap(times)]
	for i := range times {
		times[i] = [2]int{9, 9}
	}
}

func TestTriggerFunctionsKeepTheirArguments(t *testing.T) {
	for _, x := range append(triggerSamples(), badSamples()...) {
		for _, s := range append(goodSettings()[:5], settingOf(1, 1, 20, 10)) {
			arg, backing := withRoomAfter(x)
			before := slices.Clone(backing)
			callTriggerFunctions(arg, s)
			if !slices.Equal(backing, before) {
				t.Errorf("an argument changed: %v; want %v", backing, before)
			}
		}
	}
}

func TestTriggerFunctionsReadNothingBehindTheLength(t *testing.T) {
	whole := append(burst(), 5000, -5000, 5000)
	s := settingOf(1, 4, 20, 10)
	for n := range len(burst()) + 1 {
		x := whole[:n]
		wantTimes(t, x, s, timesBy(x, s)...)
		wantNoRatio(t, x, s, n)
		wantNoState(t, x, s, n)
	}
	wantGreatest(t, whole[:12], s, 4, 40, 13)
	wantLeastOn(t, whole[:12], s, 31)
}

func TestTriggerResultsAreOfTheirOwn(t *testing.T) {
	s := settingOf(1, 4, 20, 10)
	for range 3 {
		wantTimes(t, burst(), s, [2]int{4, 6}, [2]int{10, 11})
		callTriggerFunctions(burst(), s)
	}
	first, _ := impl.Triggered(burst(), s)
	second, _ := impl.Triggered(burst(), s)
	first[0] = [2]int{9, 9}
	if second[0] != [2]int{4, 6} {
		t.Error("two results share memory")
	}
}
