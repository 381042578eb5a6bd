package tests

import (
	"math"
	"math/big"
	"regexp"
	"slices"
	"strconv"
	"strings"
	"testing"

	"loop.example/g01017/impl"
)

// traceOf returns a trace as it is written, valid or not.
func traceOf(station int, start int, samples ...int) impl.Trace {
	return impl.Trace{Station: station, Start: start, Samples: samples}
}

func sameTrace(a impl.Trace, b impl.Trace) bool {
	return a.Station == b.Station && a.Start == b.Start && slices.Equal(a.Samples, b.Samples)
}

// copyOfTrace returns a trace that shares no memory with t.
func copyOfTrace(t impl.Trace) impl.Trace {
	return traceOf(t.Station, t.Start, append([]int{}, t.Samples...)...)
}

// ramp returns n samples with both signs, no two of the same size.
func ramp(n int) []int {
	samples := make([]int, n)
	for i := range samples {
		samples[i] = (i*37 + 1) * (1 - 2*(i%2))
	}
	return samples
}

// signed returns all lists of length numbers of the given ones.
func signed(length int, numbers ...int) [][]int {
	lists := [][]int{{}}
	for range length {
		var next [][]int
		for _, l := range lists {
			for _, n := range numbers {
				next = append(next, append(slices.Clone(l), n))
			}
		}
		lists = next
	}
	return lists
}

// goodTraces returns valid traces: ordinary ones, without samples, and at each limit.
func goodTraces() []impl.Trace {
	good := []impl.Trace{
		traceOf(12, 100, 5, -3, 7, -9), traceOf(1, 0, 1, 2, 3, 4), traceOf(50, 777, 0), traceOf(7, 3, -6, -2, -2),
		traceOf(1, 0), traceOf(99, impl.MaxTick), traceOf(12, 100),
		traceOf(99, impl.MaxTick, 5), traceOf(1, impl.MaxTick-1, 1, -1),
		traceOf(3, 4, impl.MaxSample, -impl.MaxSample, 0), traceOf(3, 4, -impl.MaxSample), traceOf(3, 4, 0, impl.MaxSample),
	}
	for n := range impl.MaxTrace + 1 {
		good = append(good, traceOf(20, 40, ramp(n)...), traceOf(21, 0, ramp(n)...))
		if n > 0 {
			good = append(good, traceOf(22, impl.MaxTick-n+1, ramp(n)...))
		}
	}
	return good
}

// badTraces returns traces that are not valid, each for one reason.
func badTraces() []impl.Trace {
	bad := []impl.Trace{{}}
	for _, n := range []int{0, -1, 100, 101, math.MaxInt, math.MinInt, 1<<32 + 1} {
		bad = append(bad, traceOf(n, 100, 5), traceOf(n, 100))
	}
	for _, n := range []int{-1, -24, impl.MaxTick + 1, impl.MaxTick + 24, math.MaxInt, math.MaxInt - 3, math.MinInt, 1<<32 + 1} {
		bad = append(bad, traceOf(12, n, 5), traceOf(12, n, 5, 6, 7, 8), traceOf(12, n))
	}
	for _, n := range []int{impl.MaxSample + 1, -impl.MaxSample - 1, math.MaxInt, math.MinInt, 1 << 32} {
		bad = append(bad, traceOf(12, 100, n), traceOf(12, 100, n, 1, 2), traceOf(12, 100, 1, n, 2), traceOf(12, 100, 1, 2, n))
	}
	for n := 2; n <= impl.MaxTrace; n++ {
		bad = append(bad, traceOf(12, impl.MaxTick-n+2, ramp(n)...))
	}
	return append(bad, traceOf(12, 100, make([]int, impl.MaxTrace+1)...), traceOf(12, 100, make([]int, 5000)...))
}

func wantTrace(t *testing.T, name string, got impl.Trace, ok bool, want impl.Trace) {
	t.Helper()
	if !ok || !sameTrace(got, want) {
		t.Errorf("%s = %v, %v; want %v, true", name, got, ok, want)
	}
}

func wantNoTrace(t *testing.T, name string, got impl.Trace, ok bool) {
	t.Helper()
	if ok || !sameTrace(got, impl.Trace{}) {
		t.Errorf("%s = %v, %v; want no trace, false", name, got, ok)
	}
}

func wantNoSample(t *testing.T, x impl.Trace, tick int) {
	t.Helper()
	if n, ok := impl.SampleAt(x, tick); ok || n != 0 {
		t.Errorf("SampleAt(%v, %d) = %d, %v; want 0, false", x, tick, n, ok)
	}
}

func wantNoCut(t *testing.T, x impl.Trace, from int, to int) {
	t.Helper()
	got, ok := impl.CutTrace(x, from, to)
	wantNoTrace(t, "CutTrace to "+strconv.Itoa(from)+".."+strconv.Itoa(to), got, ok)
}

func wantNoJoined(t *testing.T, a impl.Trace, b impl.Trace) {
	t.Helper()
	if got, ok := impl.JoinTraces(a, b); ok || !sameTrace(got, impl.Trace{}) {
		t.Errorf("JoinTraces(%v, %v) = %v, %v; want no trace, false", a, b, got, ok)
	}
}

func wantJoined(t *testing.T, a impl.Trace, b impl.Trace, want impl.Trace) {
	t.Helper()
	got, ok := impl.JoinTraces(a, b)
	wantTrace(t, "JoinTraces", got, ok, want)
}

func wantNoParsedTrace(t *testing.T, s string) {
	t.Helper()
	got, ok := impl.ParseTrace(s)
	wantNoTrace(t, "ParseTrace of "+strconv.Quote(s[:min(len(s), 60)]), got, ok)
}

func TestTraceLimits(t *testing.T) {
	if impl.MaxTrace != 24 || impl.MaxSample != 100000 || impl.MaxTick != 1000000 {
		t.Error("limits", impl.MaxTrace, impl.MaxSample, impl.MaxTick)
	}
}

func TestIsTrace(t *testing.T) {
	for _, x := range goodTraces() {
		if !impl.IsTrace(x) {
			t.Error("valid", x)
		}
	}
	for _, x := range badTraces() {
		if impl.IsTrace(x) {
			t.Error("not valid", x)
		}
	}
	if !impl.IsTrace(impl.Trace{Station: 5}) || !impl.IsTrace(impl.Trace{Station: 5, Samples: []int{}}) {
		t.Error("a trace without samples")
	}
	if !impl.IsTrace(traceOf(5, 6, []int{1, 2, impl.MaxSample + 1}[:2]...)) {
		t.Error("what stands behind the length counts")
	}
}

func TestTraceFunctionsFailForInvalidTraces(t *testing.T) {
	for _, x := range badTraces() {
		last := x.Start + len(x.Samples) - 1
		for _, tick := range []int{0, x.Start, last, 100, impl.MaxTick} {
			wantNoSample(t, x, tick)
			wantNoCut(t, x, tick, tick)
		}
		wantNoCut(t, x, x.Start, last)
		wantNoJoined(t, x, traceOf(x.Station, last+1))
		wantNoJoined(t, x, traceOf(x.Station, last+1, 4))
		wantNoJoined(t, traceOf(x.Station, x.Start-1, 4), x)
		if k, n, ok := impl.LargestSample(x); ok || k != 0 || n != 0 {
			t.Error("LargestSample", x, k, n, ok)
		}
		if a, b, ok := impl.MeanOf(x); ok || a != 0 || b != 0 {
			t.Error("MeanOf", x, a, b, ok)
		}
		for _, level := range []int{0, 1, -1, impl.MaxSample, -impl.MaxSample} {
			y, ok := impl.SubtractLevel(x, level)
			wantNoTrace(t, "SubtractLevel", y, ok)
		}
		if l, ok := impl.Crossings(x); ok || len(l) != 0 {
			t.Error("Crossings", x, l, ok)
		}
		if s, ok := impl.TraceText(x); ok || s != "" {
			t.Error("TraceText", x, s, ok)
		}
	}
}

func TestTraceWithoutSamples(t *testing.T) {
	for _, x := range []impl.Trace{traceOf(12, 100), traceOf(1, 0), traceOf(99, impl.MaxTick), {Station: 4, Start: 5, Samples: []int{}}} {
		for _, tick := range []int{x.Start - 1, x.Start, x.Start + 1, 0} {
			wantNoSample(t, x, tick)
			wantNoCut(t, x, tick, tick)
		}
		wantNoCut(t, x, x.Start, x.Start-1)
		if k, n, ok := impl.LargestSample(x); ok || k != 0 || n != 0 {
			t.Error("LargestSample", x, k, n, ok)
		}
		if a, b, ok := impl.MeanOf(x); ok || a != 0 || b != 0 {
			t.Error("MeanOf", x, a, b, ok)
		}
		for _, level := range []int{0, 7, impl.MaxSample, -impl.MaxSample} {
			y, ok := impl.SubtractLevel(x, level)
			wantTrace(t, "SubtractLevel", y, ok, x)
		}
		for _, level := range []int{impl.MaxSample + 1, -impl.MaxSample - 1} {
			y, ok := impl.SubtractLevel(x, level)
			wantNoTrace(t, "SubtractLevel", y, ok)
		}
		if l, ok := impl.Crossings(x); !ok || len(l) != 0 {
			t.Error("Crossings", x, l, ok)
		}
		want := strconv.Itoa(x.Station) + "@" + strconv.Itoa(x.Start) + ":"
		if s, ok := impl.TraceText(x); !ok || s != want {
			t.Error("TraceText", x, s, ok)
		}
		y, ok := impl.ParseTrace(want)
		wantTrace(t, "ParseTrace", y, ok, x)
	}
}

func TestSampleAtEachTick(t *testing.T) {
	for _, x := range goodTraces() {
		for i, want := range x.Samples {
			if n, ok := impl.SampleAt(x, x.Start+i); !ok || n != want {
				t.Errorf("SampleAt(%v, %d) = %d, %v; want %d", x, x.Start+i, n, ok, want)
			}
		}
		end := x.Start + len(x.Samples)
		for _, tick := range []int{x.Start - 1, end, end + 1, -1, impl.MaxTick + 1, math.MaxInt, math.MinInt} {
			wantNoSample(t, x, tick)
		}
	}
	hidden := traceOf(12, 100, []int{1, 2, 3, 4}[:2]...)
	wantNoSample(t, hidden, 102)
}

func TestCutTraceToEachPart(t *testing.T) {
	for _, x := range goodTraces() {
		last := x.Start + len(x.Samples) - 1
		for from := x.Start - 2; from <= last+2; from++ {
			for to := x.Start - 2; to <= last+2; to++ {
				if from < x.Start || to > last || from > to {
					wantNoCut(t, x, from, to)
					continue
				}
				want := traceOf(x.Station, from, x.Samples[from-x.Start:to-x.Start+1]...)
				got, ok := impl.CutTrace(x, from, to)
				wantTrace(t, "CutTrace", got, ok, want)
				if !impl.IsTrace(got) {
					t.Error("the part is not valid", got)
				}
			}
		}
	}
}

func TestCutTraceInvalidTicks(t *testing.T) {
	x := traceOf(12, 100, 5, -3, 7, -9)
	for _, tick := range []int{-1, 0, 99, 104, impl.MaxTick, impl.MaxTick + 1, math.MaxInt, math.MinInt} {
		wantNoCut(t, x, tick, tick)
		wantNoCut(t, x, tick, 102)
		wantNoCut(t, x, 102, tick)
	}
	wantNoCut(t, x, 103, 100)
	wantNoCut(t, x, 102, 101)
	wantNoCut(t, x, math.MinInt, math.MaxInt)
	wantNoCut(t, x, math.MaxInt, math.MinInt)
	hidden := traceOf(12, 100, []int{1, 2, 3, 4}[:2]...)
	wantNoCut(t, hidden, 100, 102)
}

// Promise 2.
func TestTraceCutAndJoinedIsTheSame(t *testing.T) {
	for _, x := range goodTraces() {
		want := copyOfTrace(x)
		last := x.Start + len(x.Samples) - 1
		for at := x.Start; at < last; at++ {
			a, okA := impl.CutTrace(x, x.Start, at)
			b, okB := impl.CutTrace(x, at+1, last)
			if !okA || !okB {
				t.Fatal("cut", x, at, okA, okB)
			}
			joined, ok := impl.JoinTraces(a, b)
			wantTrace(t, "cut and joined", joined, ok, want)
			if !sameTrace(x, want) {
				t.Fatal("argument changed", x)
			}
		}
	}
}

func TestJoinedTraceCutsIntoTheSameParts(t *testing.T) {
	for n := 1; n <= impl.MaxTrace; n++ {
		for m := 1; m <= impl.MaxTrace+2; m++ {
			a := traceOf(30, 500, ramp(n)...)
			b := traceOf(30, 500+n, ramp(m)...)
			if n+m > impl.MaxTrace {
				wantNoJoined(t, a, b)
				continue
			}
			joined, ok := impl.JoinTraces(a, b)
			wantTrace(t, "joined", joined, ok, traceOf(30, 500, append(ramp(n), ramp(m)...)...))
			first, ok := impl.CutTrace(joined, 500, 500+n-1)
			wantTrace(t, "first part", first, ok, a)
			second, ok := impl.CutTrace(joined, 500+n, 500+n+m-1)
			wantTrace(t, "second part", second, ok, b)
		}
	}
}

func TestJoinTracesThatDoNotFollow(t *testing.T) {
	a := traceOf(12, 100, 5, -3)
	wantJoined(t, a, traceOf(12, 102, 7, -9), traceOf(12, 100, 5, -3, 7, -9))
	for _, start := range []int{0, 99, 100, 101, 103, 104, impl.MaxTick - 1} {
		wantNoJoined(t, a, traceOf(12, start, 7, -9))
		wantNoJoined(t, a, traceOf(12, start))
	}
	wantNoJoined(t, traceOf(12, 102, 7, -9), a)
	for _, station := range []int{1, 11, 13, 99, 0, -12, 112} {
		wantNoJoined(t, a, traceOf(station, 102, 7, -9))
		wantNoJoined(t, traceOf(station, 98, 7, -9), a)
		wantNoJoined(t, a, traceOf(station, 102))
	}
	wantNoJoined(t, a, a)
}

func TestJoinTracesWithoutSamples(t *testing.T) {
	a := traceOf(12, 100, 5, -3)
	wantJoined(t, a, traceOf(12, 102), a)
	wantNoJoined(t, traceOf(12, 100), a)
	wantNoJoined(t, traceOf(12, 99), a)
	wantNoJoined(t, traceOf(12, 100), traceOf(12, 100))
	wantNoJoined(t, traceOf(12, 100), traceOf(12, 101))
	wantNoJoined(t, impl.Trace{}, impl.Trace{})
	full := traceOf(12, 100, ramp(impl.MaxTrace)...)
	wantJoined(t, full, traceOf(12, 100+impl.MaxTrace), full)
}

func TestJoinTracesLimits(t *testing.T) {
	half := ramp(impl.MaxTrace / 2)
	a := traceOf(12, 100, half...)
	next := 100 + len(half)
	wantJoined(t, a, traceOf(12, next, half...), traceOf(12, 100, slices.Concat(half, half)...))
	wantNoJoined(t, a, traceOf(12, next, append(slices.Clone(half), 1)...))
	wantNoJoined(t, traceOf(12, 100, ramp(impl.MaxTrace)...), traceOf(12, 100+impl.MaxTrace, 1))
	last := impl.MaxTick
	wantJoined(t, traceOf(12, last-1, 1), traceOf(12, last, 2), traceOf(12, last-1, 1, 2))
	wantJoined(t, traceOf(12, last-1, 1), traceOf(12, last), traceOf(12, last-1, 1))
	wantNoJoined(t, traceOf(12, last-1, 1), traceOf(12, last, 2, 3))
	wantNoJoined(t, traceOf(12, last, 1), traceOf(12, last+1, 2))
	wantNoJoined(t, traceOf(12, last, 1), traceOf(12, last+1))
	wantNoJoined(t, traceOf(12, math.MaxInt, 1), traceOf(12, math.MinInt, 2))
	wantNoJoined(t, traceOf(12, -1, 1), traceOf(12, 0, 2))
}

func TestLargestSample(t *testing.T) {
	for _, c := range []struct {
		x       impl.Trace
		tick, n int
	}{
		{traceOf(12, 100, 5, -3, 7, -9), 103, -9},
		{traceOf(12, 100, 9, -9, 9), 100, 9},
		{traceOf(12, 100, -9, 9, -9), 100, -9},
		{traceOf(12, 100, 1, -9, 9), 101, -9},
		{traceOf(12, 100, 1, 9, -9, 9), 101, 9},
		{traceOf(12, 100, 0, 0), 100, 0},
		{traceOf(12, 100, 0, -1, 1), 101, -1},
		{traceOf(12, 100, -5, -8, -2), 101, -8},
		{traceOf(12, 0, 4), 0, 4},
		{traceOf(12, impl.MaxTick-1, 1, -impl.MaxSample), impl.MaxTick, -impl.MaxSample},
		{traceOf(12, 7, impl.MaxSample, -impl.MaxSample), 7, impl.MaxSample},
		{traceOf(12, 7, impl.MaxSample-1, -impl.MaxSample), 8, -impl.MaxSample},
	} {
		if k, n, ok := impl.LargestSample(c.x); !ok || k != c.tick || n != c.n {
			t.Errorf("LargestSample(%v) = %d, %d, %v; want %d, %d", c.x, k, n, ok, c.tick, c.n)
		}
	}
}

func TestLargestSampleIsTheFirstOfTheGreatest(t *testing.T) {
	for _, samples := range signed(4, -2, -1, 0, 1, 2) {
		want := 0
		for i, n := range samples {
			if n*n > samples[want]*samples[want] {
				want = i
			}
		}
		if k, n, ok := impl.LargestSample(traceOf(9, 30, samples...)); !ok || k != 30+want || n != samples[want] {
			t.Fatalf("LargestSample of %v = %d, %d, %v", samples, k, n, ok)
		}
	}
}

func TestMeanOf(t *testing.T) {
	for _, c := range []struct {
		samples  []int
		num, den int
	}{
		{[]int{1, 2, 3, 4}, 5, 2},
		{[]int{-1, -2, -3, -4}, -5, 2},
		{[]int{0}, 0, 1},
		{[]int{0, 0, 0}, 0, 1},
		{[]int{3, -1, -2}, 0, 1},
		{[]int{-6, -6}, -6, 1},
		{[]int{-1, 0, 0}, -1, 3},
		{[]int{1, 1, 1, 1, 1, 0}, 5, 6},
		{[]int{2, 2, 0, 0, 0, 0}, 2, 3},
		{[]int{impl.MaxSample}, impl.MaxSample, 1},
		{[]int{-impl.MaxSample, -impl.MaxSample}, -impl.MaxSample, 1},
	} {
		if a, b, ok := impl.MeanOf(traceOf(9, 30, c.samples...)); !ok || a != c.num || b != c.den {
			t.Errorf("MeanOf %v = %d / %d, %v; want %d / %d", c.samples, a, b, ok, c.num, c.den)
		}
	}
}

func TestMeanOfIsInLowestTerms(t *testing.T) {
	lists := append(signed(5, -3, -1, 0, 2, 4), slices.Repeat([]int{impl.MaxSample}, impl.MaxTrace), slices.Repeat([]int{-impl.MaxSample}, impl.MaxTrace))
	for n := 1; n <= impl.MaxTrace; n++ {
		lists = append(lists, ramp(n))
	}
	for _, samples := range lists {
		sum := 0
		for _, n := range samples {
			sum += n
		}
		want := big.NewRat(int64(sum), int64(len(samples)))
		a, b, ok := impl.MeanOf(traceOf(9, 30, samples...))
		if !ok || int64(a) != want.Num().Int64() || int64(b) != want.Denom().Int64() {
			t.Fatalf("MeanOf %v = %d / %d, %v; want %v", samples, a, b, ok, want)
		}
	}
}

func TestSubtractLevel(t *testing.T) {
	for _, c := range []struct {
		level         int
		samples, want []int
	}{
		{5, []int{5, -3, 7, -9}, []int{0, -8, 2, -14}},
		{-5, []int{5, -3, 7, -9}, []int{10, 2, 12, -4}},
		{0, []int{5, -3, 7, -9}, []int{5, -3, 7, -9}},
		{impl.MaxSample, []int{0, impl.MaxSample}, []int{-impl.MaxSample, 0}},
		{-impl.MaxSample, []int{0, -impl.MaxSample}, []int{impl.MaxSample, 0}},
		{1, []int{3, 1 - impl.MaxSample}, []int{2, -impl.MaxSample}},
		{-1, []int{3, impl.MaxSample - 1}, []int{4, impl.MaxSample}},
	} {
		got, ok := impl.SubtractLevel(traceOf(12, 100, c.samples...), c.level)
		wantTrace(t, "SubtractLevel of "+strconv.Itoa(c.level), got, ok, traceOf(12, 100, c.want...))
		back, ok := impl.SubtractLevel(got, -c.level)
		wantTrace(t, "the level added again", back, ok, traceOf(12, 100, c.samples...))
	}
}

func TestSubtractLevelInvalid(t *testing.T) {
	for _, c := range []struct {
		level   int
		samples []int
	}{
		{1, []int{3, -impl.MaxSample}}, {1, []int{-impl.MaxSample, 3}}, {-1, []int{impl.MaxSample, 3}}, {-1, []int{3, impl.MaxSample}},
		{impl.MaxSample, []int{-1}}, {-impl.MaxSample, []int{1}}, {impl.MaxSample, []int{5, 6, -1, 7}},
		{impl.MaxSample + 1, []int{5}}, {impl.MaxSample + 1, []int{impl.MaxSample}}, {-impl.MaxSample - 1, []int{-impl.MaxSample}},
		{math.MaxInt, []int{5}}, {math.MinInt, []int{5}}, {math.MinInt, []int{-5}}, {math.MaxInt, []int{}}, {math.MinInt, []int{}},
	} {
		got, ok := impl.SubtractLevel(traceOf(12, 100, c.samples...), c.level)
		wantNoTrace(t, "SubtractLevel of "+strconv.Itoa(c.level), got, ok)
	}
}

func TestCrossings(t *testing.T) {
	for _, c := range []struct {
		x    impl.Trace
		want []int
	}{
		{traceOf(12, 100, 5, -3, 7, -9), []int{101, 102, 103}},
		{traceOf(12, 100, 5, 3, 0, 9), nil},
		{traceOf(12, 100, -5, -3, -1), nil},
		{traceOf(12, 100, -5, 0, -1, 0, 0, 1), []int{101, 102, 103}},
		{traceOf(12, 100, 0, -1), []int{101}},
		{traceOf(12, 100, -1), nil},
		{traceOf(12, 100, 1), nil},
		{traceOf(12, 0, -1, 1), []int{1}},
		{traceOf(12, impl.MaxTick-1, 1, -1), []int{impl.MaxTick}},
	} {
		if l, ok := impl.Crossings(c.x); !ok || !slices.Equal(l, c.want) {
			t.Errorf("Crossings(%v) = %v, %v; want %v", c.x, l, ok, c.want)
		}
	}
}

func TestCrossingsOfAllSigns(t *testing.T) {
	for n := range 7 {
		for _, samples := range signed(n, -4, 0, 4) {
			want := []int{}
			for i := 1; i < n; i++ {
				up := samples[i] >= 0 && samples[i-1] < 0
				down := samples[i] < 0 && samples[i-1] >= 0
				if up || down {
					want = append(want, 60+i)
				}
			}
			if l, ok := impl.Crossings(traceOf(9, 60, samples...)); !ok || !slices.Equal(l, want) {
				t.Fatalf("Crossings of %v = %v, %v; want %v", samples, l, ok, want)
			}
		}
	}
}

func TestTraceTextForms(t *testing.T) {
	for want, x := range map[string]impl.Trace{
		"12@100: 5 -3 7":         traceOf(12, 100, 5, -3, 7),
		"1@0:":                   traceOf(1, 0),
		"99@1000000:":            traceOf(99, impl.MaxTick),
		"99@1000000: 0":          traceOf(99, impl.MaxTick, 0),
		"9@999999: 1 -1":         traceOf(9, 999999, 1, -1),
		"10@7: 100000 0 -100000": traceOf(10, 7, impl.MaxSample, 0, -impl.MaxSample),
	} {
		if s, ok := impl.TraceText(x); !ok || s != want {
			t.Errorf("TraceText(%v) = %q, %v; want %q", x, s, ok, want)
		}
		got, ok := impl.ParseTrace(want)
		wantTrace(t, "ParseTrace of "+want, got, ok, x)
	}
}

func TestTraceTextAndParseTraceRoundTrip(t *testing.T) {
	for _, x := range goodTraces() {
		want := strconv.Itoa(x.Station) + "@" + strconv.Itoa(x.Start) + ":"
		for _, n := range x.Samples {
			want += " " + strconv.Itoa(n)
		}
		s, ok := impl.TraceText(x)
		if !ok || s != want {
			t.Fatalf("TraceText(%v) = %q, %v; want %q", x, s, ok, want)
		}
		got, ok := impl.ParseTrace(s)
		wantTrace(t, "ParseTrace of "+s, got, ok, x)
	}
	longest := traceOf(99, impl.MaxTick-impl.MaxTrace+1, slices.Repeat([]int{-impl.MaxSample}, impl.MaxTrace)...)
	s, ok := impl.TraceText(longest)
	if !ok {
		t.Fatal("the longest text")
	}
	got, ok := impl.ParseTrace(s)
	wantTrace(t, "ParseTrace of the longest text", got, ok, longest)
}

func TestParseTraceInvalid(t *testing.T) {
	for _, s := range []string{
		"", "@", ":", "@:", "12", "12@", "12@100", "12:100", "12@100 5", "12@100:5", "12@100:5 6", "12@100: ", "12@100:  5",
		"12@100: 5 ", "12@100: 5  6", " 12@100: 5", "12 @100: 5", "12@ 100: 5", "12@100 : 5", "12@100: 5\n", "12@100:\t5",
		"@100: 5", "12@: 5", "012@100: 5", "12@0100: 5", "12@100: 05", "12@100: -0", "12@100: +5", "12@100: --5", "12@100: 5-",
		"+12@100: 5", "12@+100: 5", "-12@100: 5", "12@-100: 5", "12@-0: 5", "00@0: 5", "12@00: 5",
		"12@100:: 5", "12@@100: 5", "12@100: 5: 6", "12@100: 5@6", "12@100: 5:", "12@100: 5@", "12:100@ 5", "12@100; 5",
		"12@100: a", "12@100: 5.0", "12@100: 0x5", "12@100: 1_0", "12@100: 1e1", "a@100: 5", "12@b: 5", "12@100: \u0665",
		"0@100: 5", "100@100: 5", "-1@100: 5", "12@-1: 5", "12@1000001: 5", "12@1000001:", "12@1000000: 5 6",
		"12@100: 100001", "12@100: -100001", "12@100: 5 100001 6", "12@100: 9223372036854775808", "12@100: 18446744073709551621",
		"18446744073709551628@100: 5", "12@18446744073709551716: 5", "12@100: -9223372036854775809",
		"12@100: 5\x00", "\x0012@100: 5", "12@100:\x005", "12@100: 5#385", "{12 100 [5]}",
	} {
		wantNoParsedTrace(t, s)
	}
	for _, x := range badTraces() {
		s := strconv.Itoa(x.Station) + "@" + strconv.Itoa(x.Start) + ":"
		for _, n := range x.Samples {
			s += " " + strconv.Itoa(n)
		}
		wantNoParsedTrace(t, s)
	}
	for _, piece := range []string{" ", " 5", ":", "@", "9", "12@100: 5", "a"} {
		wantNoParsedTrace(t, "12@100: 5"+strings.Repeat(piece, 5000))
		wantNoParsedTrace(t, strings.Repeat(piece, 5000))
	}
	wantNoParsedTrace(t, "12@"+strings.Repeat("0", 5000)+"100: 5")
}

// TestParseTraceOfNearTexts holds the texts that are one byte away from a trace's against the form of such a text.
func TestParseTraceOfNearTexts(t *testing.T) {
	form := regexp.MustCompile(`^[1-9][0-9]?@(0|[1-9][0-9]*):( (0|-?[1-9][0-9]*))*$`)
	for _, text := range []string{"12@100: 5 -3 70", "9@0:", "99@999999: -1 0", "1@1000000: 100000", "5@99999: -100000 -99999 0"} {
		for _, s := range nearTexts(text, "0159-+ @:a\x00\xff") {
			got, ok := impl.ParseTrace(s)
			if !form.MatchString(s) && ok {
				t.Errorf("ParseTrace(%q) = %v", s, got)
			}
			if ok != isTraceText(form, s) {
				t.Errorf("ParseTrace(%q) = %v, %v", s, got, ok)
			}
			if again, _ := impl.TraceText(got); ok && again != s {
				t.Errorf("ParseTrace(%q) has the text %q", s, again)
			}
		}
	}
}

// nearTexts returns s and the strings that one byte more, less or other makes of it.
func nearTexts(s string, alphabet string) []string {
	near := []string{s}
	for i := range len(s) + 1 {
		for j := range len(alphabet) {
			near = append(near, s[:i]+alphabet[j:j+1]+s[i:])
			if i < len(s) {
				near = append(near, s[:i]+alphabet[j:j+1]+s[i+1:])
			}
		}
		if i < len(s) {
			near = append(near, s[:i]+s[i+1:])
		}
	}
	return near
}

// isTraceText reports whether s has the form of a short trace's text, and its numbers are within the limits.
func isTraceText(form *regexp.Regexp, s string) bool {
	if !form.MatchString(s) {
		return false
	}
	numbers := regexp.MustCompile(`-?[0-9]+`).FindAllString(s, -1)
	start, _ := strconv.Atoi(numbers[1])
	for _, number := range numbers[2:] {
		if n, _ := strconv.Atoi(number); n < -impl.MaxSample || n > impl.MaxSample {
			return false
		}
	}
	last := start + len(numbers[2:]) - 1
	return start <= impl.MaxTick && last <= impl.MaxTick
}

// withRoom returns t with samples behind which there is room that other numbers fill.
func withRoom(t impl.Trace) (impl.Trace, []int) {
	backing := append(append([]int{}, t.Samples...), slices.Repeat([]int{-77}, 60)...)
	t.Samples = backing[:len(t.Samples)]
	return t, backing
}

func wantRoomKept(t *testing.T, name string, x impl.Trace, backing []int) {
	t.Helper()
	for i, n := range backing {
		if i < len(x.Samples) && n != x.Samples[i] || i >= len(x.Samples) && n != -77 {
			t.Errorf("%s changed its argument: %v", name, backing)
			return
		}
	}
}

// spoil overwrites the samples of a result and what stands behind them.
func spoil(x impl.Trace) {
	all := x.Samples[:cap(x.Samples)]
	for i := range all {
		all[i] = 55
	}
}

func TestTraceResultsShareNoMemory(t *testing.T) {
	whole := traceOf(12, 100, 5, -3, 7, -9)
	for name, call := range map[string]func(impl.Trace) (impl.Trace, bool){
		"CutTrace, all":        func(x impl.Trace) (impl.Trace, bool) { return impl.CutTrace(x, 100, 103) },
		"CutTrace, first":      func(x impl.Trace) (impl.Trace, bool) { return impl.CutTrace(x, 100, 101) },
		"CutTrace, last":       func(x impl.Trace) (impl.Trace, bool) { return impl.CutTrace(x, 102, 103) },
		"JoinTraces":           func(x impl.Trace) (impl.Trace, bool) { return impl.JoinTraces(x, traceOf(12, 104, 8)) },
		"JoinTraces, none":     func(x impl.Trace) (impl.Trace, bool) { return impl.JoinTraces(x, traceOf(12, 104)) },
		"JoinTraces, behind":   func(x impl.Trace) (impl.Trace, bool) { return impl.JoinTraces(traceOf(12, 99, 8), x) },
		"SubtractLevel":        func(x impl.Trace) (impl.Trace, bool) { return impl.SubtractLevel(x, 5) },
		"SubtractLevel of 0":   func(x impl.Trace) (impl.Trace, bool) { return impl.SubtractLevel(x, 0) },
		"SubtractLevel, wrong": func(x impl.Trace) (impl.Trace, bool) { return impl.SubtractLevel(x, impl.MaxSample) },
	} {
		x, backing := withRoom(whole)
		y, _ := call(x)
		wantRoomKept(t, name, whole, backing)
		spoil(y)
		wantRoomKept(t, name+", result written to,", whole, backing)
	}
}

func TestJoinTracesSharesNoMemoryBetweenResults(t *testing.T) {
	a, backing := withRoom(traceOf(12, 100, 5, -3))
	one, _ := impl.JoinTraces(a, traceOf(12, 102, 1))
	two, _ := impl.JoinTraces(a, traceOf(12, 102, 2))
	wantTrace(t, "the first join", one, true, traceOf(12, 100, 5, -3, 1))
	wantTrace(t, "the second join", two, true, traceOf(12, 100, 5, -3, 2))
	wantRoomKept(t, "JoinTraces", traceOf(12, 100, 5, -3), backing)
	whole := traceOf(12, 100, 5, -3, 7, -9)
	head := whole
	head.Samples = whole.Samples[:2]
	wantJoined(t, head, traceOf(12, 102, 1, 1), traceOf(12, 100, 5, -3, 1, 1))
	if !slices.Equal(whole.Samples, []int{5, -3, 7, -9}) {
		t.Error("the whole trace changed", whole)
	}
}
