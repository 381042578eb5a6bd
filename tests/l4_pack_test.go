package tests

import (
	"math"
	"slices"
	"sync"
	"testing"

	"loop.example/g01017/impl"
)

const greatest = 2 * impl.MaxSample

// packedInOrder returns the bytes of each folded number that a difference can have: those of one byte, then those of two, then those of three, each in lexicographic order.
var packedInOrder = sync.OnceValue(func() [][]int {
	list := [][]int{}
	for a := range 192 {
		list = append(list, []int{a})
	}
	for a := 192; a < 224; a++ {
		for b := range 256 {
			list = append(list, []int{a, b})
		}
	}
	for n := 0; len(list) <= 2*greatest; n++ {
		list = append(list, []int{224 + n>>16, n >> 8 & 255, n & 255})
	}
	return list
})

// placesInOrder returns the place in packedInOrder for each of its bytes.
var placesInOrder = sync.OnceValue(func() map[string]int {
	places := map[string]int{}
	for i, bytes := range packedInOrder() {
		places[keyOf(bytes)] = i
	}
	return places
})

func keyOf(bytes []int) string {
	key := ""
	for _, b := range bytes {
		key += string(rune(b))
	}
	return key
}

// inFoldedOrder returns the differences in the order of their folded numbers.
var inFoldedOrder = sync.OnceValue(func() []int {
	list := []int{0}
	for d := 1; d <= greatest; d++ {
		list = append(list, -d, d)
	}
	return list
})

// stepTo returns two samples of which the second one has the difference d.
func stepTo(d int) []int {
	if d < 0 {
		return []int{impl.MaxSample, impl.MaxSample + d}
	}
	return []int{-impl.MaxSample, -impl.MaxSample + d}
}

// limitSteps returns differences at the limits of the widths, and at those of a difference.
func limitSteps() []int {
	return []int{0, 1, -1, 95, 96, 97, -95, -96, -97, -98, 4191, 4192, 4193, -4191, -4192, -4193, -4194, 100000, -100000, greatest - 1, greatest, 1 - greatest, -greatest}
}

// goodSamples returns lists of samples: ordinary ones, none, one, and at each limit.
func goodSamples() [][]int {
	good := [][]int{nil, {}, {5, 101, -4000, 96000}, {5, 5, 5}, {0, 0}, {-1, 1, -1}}
	for _, d := range limitSteps() {
		good = append(good, stepTo(d), append(stepTo(d), 0, 7))
		if d >= -impl.MaxSample && d <= impl.MaxSample {
			good = append(good, []int{d}, []int{d, 0}, []int{0, d}, []int{d, d})
		}
	}
	swings := []int{}
	for i := range impl.MaxTrace {
		swings = append(swings, impl.MaxSample*(1-2*(i%2)))
	}
	for n := range impl.MaxTrace + 1 {
		scattered := numbers(n, n, 2*impl.MaxSample+1)
		for i := range scattered {
			scattered[i] -= impl.MaxSample
		}
		good = append(good, ramp(n), swings[:n], scattered)
	}
	return good
}

// badSamples returns lists that are not samples, each for one reason.
func badSamples() [][]int {
	bad := [][]int{make([]int, impl.MaxTrace+1), make([]int, 5000), ramp(impl.MaxTrace + 1)}
	for _, n := range append(beyond(-impl.MaxSample, impl.MaxSample), 1<<32, math.MaxInt/2) {
		last := ramp(impl.MaxTrace)
		last[impl.MaxTrace-1] = n
		bad = append(bad, []int{n}, []int{n, 0}, []int{0, n}, []int{1, n, 2}, []int{n, n}, last)
	}
	return bad
}

// packedSteps returns the bytes of differences, which may be ones of no samples.
func packedSteps(list ...int) []int {
	bytes, inOrder := []int{}, packedInOrder()
	for _, d := range list {
		n := 2 * d
		if d < 0 {
			n = -2*d - 1
		}
		bytes = append(bytes, inOrder[n]...)
	}
	return bytes
}

// sums returns the samples with the differences of list, of samples or not.
func sums(list []int) []int {
	samples, sum := []int{}, 0
	for _, d := range list {
		sum += d
		samples = append(samples, sum)
	}
	return samples
}

func steps(samples []int) []int {
	list, before := []int{}, 0
	for _, x := range samples {
		list = append(list, x-before)
		before = x
	}
	return list
}

func wantNumbers(t *testing.T, name string, got []int, ok bool, want []int) {
	t.Helper()
	if !ok || !slices.Equal(got, want) {
		t.Errorf("%s = %v, %v; want %v, true", name, got, ok, want)
	}
}

func wantNoNumbers(t *testing.T, name string, got []int, ok bool) {
	t.Helper()
	if ok || len(got) != 0 {
		t.Errorf("%s = %v, %v; want none, false", name, got, ok)
	}
}

func wantTorn(t *testing.T, bytes []int, want int) {
	t.Helper()
	if n, ok := impl.TornAt(bytes); !ok || n != want {
		t.Errorf("TornAt(%v) = %d, %v; want %d, true", bytes, n, ok, want)
	}
}

func wantReadable(t *testing.T, bytes []int, want []int) {
	t.Helper()
	got, ok := impl.ReadableSamples(bytes)
	wantNumbers(t, "ReadableSamples", got, ok, want)
}

func wantNotUnpacked(t *testing.T, bytes []int) {
	t.Helper()
	got, ok := impl.UnpackSamples(bytes)
	wantNoNumbers(t, "UnpackSamples", got, ok)
}

func TestDifferences(t *testing.T) {
	for _, x := range goodSamples() {
		got, ok := impl.Differences(x)
		wantNumbers(t, "Differences", got, ok, steps(x))
		back, ok := impl.FromDifferences(got)
		wantNumbers(t, "FromDifferences", back, ok, x)
	}
	got, ok := impl.Differences([]int{impl.MaxSample, -impl.MaxSample, impl.MaxSample})
	wantNumbers(t, "Differences of the limits", got, ok, []int{impl.MaxSample, -greatest, greatest})
}

func TestFromDifferencesBeyondSamples(t *testing.T) {
	for _, list := range badSamples() {
		got, ok := impl.FromDifferences(steps(list))
		wantNoNumbers(t, "FromDifferences", got, ok)
	}
	bad := [][]int{
		{100000, 1}, {-100000, -1}, {100001}, {-100001}, {0, 100001}, {0, -100001}, {-100000, greatest + 1}, {100000, -greatest - 1},
		{100000, 1, -1}, {-100000, -1, 1}, {100001, -1}, {-100000, greatest + 1, -1}, {greatest}, {-greatest}, {greatest, -greatest},
		{math.MaxInt}, {math.MinInt}, {1, math.MaxInt}, {-1, math.MinInt}, {math.MaxInt, math.MinInt, 1}, {math.MinInt, math.MinInt}, {5, math.MaxInt, math.MaxInt, 2},
	}
	for _, list := range bad {
		got, ok := impl.FromDifferences(list)
		wantNoNumbers(t, "FromDifferences", got, ok)
	}
	for _, list := range [][]int{{100000, -greatest, greatest}, {-100000, greatest, -greatest}, {100000}, {-100000}, {100000, 0}, {99999, 1, -1}, nil, {}} {
		got, ok := impl.FromDifferences(list)
		wantNumbers(t, "FromDifferences", got, ok, sums(list))
	}
	full := slices.Repeat([]int{1}, impl.MaxTrace)
	got, ok := impl.FromDifferences(full)
	wantNumbers(t, "FromDifferences of as many as a trace has", got, ok, sums(full))
	got, ok = impl.FromDifferences(append(full, 1))
	wantNoNumbers(t, "FromDifferences of one more", got, ok)
}

func TestFoldedOf(t *testing.T) {
	for want, d := range inFoldedOrder() {
		if n, ok := impl.FoldedOf(d); !ok || n != want {
			t.Fatalf("FoldedOf(%d) = %d, %v; want %d, true", d, n, ok, want)
		}
	}
	for _, d := range beyond(-greatest, greatest) {
		if n, ok := impl.FoldedOf(d); ok || n != 0 {
			t.Errorf("FoldedOf(%d) = %d, %v; want 0, false", d, n, ok)
		}
	}
}

func TestPackedWidth(t *testing.T) {
	for i, d := range inFoldedOrder() {
		if n, ok := impl.PackedWidth(d); !ok || n != len(packedInOrder()[i]) {
			t.Fatalf("PackedWidth(%d) = %d, %v; want %d, true", d, n, ok, len(packedInOrder()[i]))
		}
	}
	for _, d := range beyond(-greatest, greatest) {
		if n, ok := impl.PackedWidth(d); ok || n != 0 {
			t.Errorf("PackedWidth(%d) = %d, %v; want 0, false", d, n, ok)
		}
	}
}

func TestPackedWidthAtItsLimits(t *testing.T) {
	for width, list := range [][]int{1: {95, -96}, 2: {96, -97, 4191, -4192}, 3: {4192, -4193, greatest, -greatest}} {
		for _, d := range list {
			if n, ok := impl.PackedWidth(d); !ok || n != width {
				t.Errorf("PackedWidth(%d) = %d, %v; want %d, true", d, n, ok, width)
			}
		}
	}
}

// Each difference is packed to the bytes that are next in their order, and is recovered from them.
func TestEachDifferenceIsPackedAndUnpacked(t *testing.T) {
	for i, d := range inFoldedOrder() {
		samples := stepTo(d)
		want := slices.Concat(packedSteps(samples[0]), packedInOrder()[i])
		bytes, ok := impl.PackSamples(samples)
		if !ok || !slices.Equal(bytes, want) {
			t.Fatalf("PackSamples(%v) = %v, %v; want %v, true", samples, bytes, ok, want)
		}
		if back, ok := impl.UnpackSamples(bytes); !ok || !slices.Equal(back, samples) {
			t.Fatalf("UnpackSamples(%v) = %v, %v; want %v, true", bytes, back, ok, samples)
		}
	}
}

func TestPackSamplesExamples(t *testing.T) {
	for _, c := range []struct{ samples, bytes []int }{
		{nil, nil}, {[]int{0}, []int{0}}, {[]int{-1}, []int{1}}, {[]int{5, -1}, []int{10, 11}},
		{[]int{95}, []int{190}}, {[]int{-96}, []int{191}}, {[]int{96}, []int{192, 0}}, {[]int{-97}, []int{192, 1}},
		{[]int{4191}, []int{223, 254}}, {[]int{-4192}, []int{223, 255}}, {[]int{4192}, []int{224, 0, 0}}, {[]int{-4193}, []int{224, 0, 1}},
		{[]int{impl.MaxSample, -impl.MaxSample, impl.MaxSample}, []int{226, 236, 128, 229, 249, 191, 229, 249, 192}},
		{[]int{5, 101, -4000, 96000}, []int{10, 192, 0, 223, 73, 226, 236, 128}},
	} {
		got, ok := impl.PackSamples(c.samples)
		wantNumbers(t, "PackSamples", got, ok, c.bytes)
		back, ok := impl.UnpackSamples(c.bytes)
		wantNumbers(t, "UnpackSamples", back, ok, c.samples)
	}
}

func TestPackFunctionsFailForInvalidSamples(t *testing.T) {
	for _, x := range badSamples() {
		list, ok := impl.Differences(x)
		wantNoNumbers(t, "Differences", list, ok)
		bytes, ok := impl.PackSamples(x)
		wantNoNumbers(t, "PackSamples", bytes, ok)
		counts, ok := impl.WidthCounts(x)
		wantNoNumbers(t, "WidthCounts", counts, ok)
	}
}

func TestWidthCounts(t *testing.T) {
	for _, x := range goodSamples() {
		want := make([]int, 3)
		for _, d := range steps(x) {
			want[len(packedSteps(d))-1]++
		}
		got, ok := impl.WidthCounts(x)
		wantNumbers(t, "WidthCounts", got, ok, want)
	}
	for _, x := range [][]int{nil, {}} {
		got, ok := impl.WidthCounts(x)
		wantNumbers(t, "WidthCounts of no samples", got, ok, []int{0, 0, 0})
	}
	got, ok := impl.WidthCounts([]int{95, -1, 95, -2, 4189, -3, 4189, -4})
	wantNumbers(t, "WidthCounts at the limits", got, ok, []int{2, 4, 2})
}

// Promise 4.
func TestSamplesAreRecoveredFromTheirBytesAndTheFirstOnesFromTornBytes(t *testing.T) {
	for _, x := range goodSamples() {
		bytes, ok := impl.PackSamples(x)
		wantNumbers(t, "PackSamples", bytes, ok, packedSteps(steps(x)...))
		back, ok := impl.UnpackSamples(bytes)
		wantNumbers(t, "UnpackSamples", back, ok, x)
		whole, count := 0, 0
		for n := range len(bytes) + 1 {
			if count < len(x) && n == len(packedSteps(steps(x[:count+1])...)) {
				whole, count = n, count+1
			}
			wantTorn(t, bytes[:n], whole)
			wantReadable(t, bytes[:n], x[:count])
			if n != whole {
				wantNotUnpacked(t, bytes[:n])
			}
		}
		if whole != len(bytes) || count != len(x) {
			t.Error("not all is whole", x, whole, count)
		}
	}
}

// From bytes of any kind, the samples that are readable are those of a packed beginning, and the next number, if there is a whole one, makes no sample.
func TestReadableSamplesOfScatteredBytes(t *testing.T) {
	for seed := range 3000 {
		bytes := numbers(seed, seed%(101), []int{256, 192, 230, 200, 2, 256}[seed%6])
		samples, ok := impl.ReadableSamples(bytes)
		torn, also := impl.TornAt(bytes)
		if !ok || !also {
			t.Fatal("no samples", bytes)
		}
		packed := packedSteps(steps(samples)...)
		if len(packed) > torn || !slices.Equal(packed, bytes[:len(packed)]) || len(samples) > impl.MaxTrace {
			t.Fatal("not the first samples", bytes, samples, torn)
		}
		unpacked, ok := impl.UnpackSamples(bytes)
		if len(packed) == len(bytes) {
			wantNumbers(t, "UnpackSamples", unpacked, ok, samples)
		} else {
			wantNoNumbers(t, "UnpackSamples", unpacked, ok)
		}
		if len(packed) == torn || len(samples) == impl.MaxTrace {
			continue
		}
		if d, ok := firstStep(bytes[len(packed):torn]); ok && impl.IsTrace(traceOf(1, 0, sums(append(steps(samples), d))...)) {
			t.Fatal("one more is readable", bytes, samples, torn)
		}
	}
}

// firstStep returns the difference that whole bytes begin with, and true, or false if it is too great.
func firstStep(bytes []int) (int, bool) {
	for n := 1; n <= min(3, len(bytes)); n++ {
		if place, ok := placesInOrder()[keyOf(bytes[:n])]; ok {
			return inFoldedOrder()[place], true
		}
	}
	return 0, false
}

func TestTornAt(t *testing.T) {
	for _, c := range []struct {
		bytes []int
		want  int
	}{
		{nil, 0}, {[]int{0}, 1}, {[]int{191}, 1}, {[]int{192}, 0}, {[]int{223}, 0}, {[]int{224}, 0}, {[]int{255}, 0},
		{[]int{192, 255}, 2}, {[]int{223, 0}, 2}, {[]int{224, 0}, 0}, {[]int{255, 255}, 0}, {[]int{224, 0, 0}, 3}, {[]int{255, 255, 255}, 3},
		{[]int{191, 191}, 2}, {[]int{7, 224, 9}, 1}, {[]int{7, 223, 9}, 3}, {[]int{7, 223, 9, 192}, 3}, {[]int{192, 192, 192}, 2},
		{[]int{224, 224, 224, 224}, 3}, {[]int{224, 224, 224, 224, 224}, 3}, {[]int{224, 224, 224, 224, 224, 224}, 6}, {[]int{1, 192, 5, 224, 6, 7, 2}, 7},
	} {
		wantTorn(t, c.bytes, c.want)
	}
	for a := range 256 {
		width := 1
		if a >= 192 {
			width = 2
		}
		if a >= 224 {
			width = 3
		}
		for n := 1; n <= 3; n++ {
			if n < width {
				wantTorn(t, append([]int{3}, slices.Repeat([]int{a}, n)...), 1)
			} else {
				wantTorn(t, append([]int{3, a}, make([]int, n-1)...), n+1)
			}
		}
	}
}

func TestBytesAtTheirLimits(t *testing.T) {
	wantTorn(t, make([]int, 100), 100)
	wantTorn(t, slices.Repeat([]int{255}, 100), 99)
	wantTorn(t, slices.Repeat([]int{223}, 99), 98)
	bad := [][]int{make([]int, 101), slices.Repeat([]int{255}, 101), make([]int, 5000)}
	for _, b := range append(beyond(0, 255), 1<<32, 1<<8+5, -250) {
		bad = append(bad, []int{b}, []int{b, 5}, []int{5, b}, []int{200, b}, []int{224, 1, b}, []int{224, b, 1}, []int{224, b}, []int{b, 224})
		long := make([]int, 100)
		long[99] = b
		bad = append(bad, long)
	}
	for _, bytes := range bad {
		if n, ok := impl.TornAt(bytes); ok || n != 0 {
			t.Errorf("TornAt(%v) = %d, %v; want 0, false", bytes, n, ok)
		}
		got, ok := impl.ReadableSamples(bytes)
		wantNoNumbers(t, "ReadableSamples", got, ok)
		wantNotUnpacked(t, bytes)
	}
}

func TestBytesOfNoBytes(t *testing.T) {
	for _, bytes := range [][]int{nil, {}} {
		wantTorn(t, bytes, 0)
		wantReadable(t, bytes, nil)
		got, ok := impl.UnpackSamples(bytes)
		wantNumbers(t, "UnpackSamples", got, ok, nil)
	}
}

func TestBytesOfTooGreatDifferences(t *testing.T) {
	const last, all = 229<<16 + 249<<8 + 192, 1<<24 - 1
	for n := last + 1; n <= all; n = min(n+1+(n-last)/50, max(all, n+1)) {
		bytes := []int{n >> 16, n >> 8 & 255, n & 255}
		wantTorn(t, bytes, 3)
		wantReadable(t, bytes, nil)
		wantNotUnpacked(t, bytes)
		for _, first := range []int{0, 5, impl.MaxSample, -impl.MaxSample} {
			more := slices.Concat(packedSteps(first), bytes, []int{0})
			wantTorn(t, more, len(more))
			wantReadable(t, more, []int{first})
			wantNotUnpacked(t, more)
		}
	}
}

func TestBytesOfSamplesBeyondTheLimits(t *testing.T) {
	for _, c := range []struct {
		list  []int
		count int
	}{
		{[]int{100000, 1}, 1}, {[]int{-100000, -1}, 1}, {[]int{100001}, 0}, {[]int{-100001}, 0}, {[]int{greatest}, 0}, {[]int{-greatest}, 0},
		{[]int{100000, 1, -1}, 1}, {[]int{-100000, -1, 1}, 1}, {[]int{100001, -1}, 0}, {[]int{5, 6, 99990, -99990}, 2}, {[]int{7, 100000, -100000, 3}, 1},
		{[]int{100000, -greatest, greatest, 1, 5}, 3}, {[]int{-100000, greatest, -greatest, -1}, 3},
	} {
		bytes := packedSteps(c.list...)
		wantTorn(t, bytes, len(bytes))
		wantReadable(t, bytes, sums(c.list[:c.count]))
		wantNotUnpacked(t, bytes)
	}
}

func TestBytesOfMoreSamplesThanATraceHas(t *testing.T) {
	for _, d := range []int{0, 1, -1, 95, 96, -97} {
		list := slices.Repeat([]int{d}, impl.MaxTrace)
		bytes := packedSteps(list...)
		got, ok := impl.UnpackSamples(bytes)
		wantNumbers(t, "UnpackSamples of as many as a trace has", got, ok, sums(list))
		for len(bytes) <= 98 {
			bytes = append(bytes, packedSteps(d)...)
			wantTorn(t, bytes, len(bytes))
			wantReadable(t, bytes, sums(list))
			wantNotUnpacked(t, bytes)
		}
	}
}

// withRoomAfter returns list with room behind it that -7 fills, and the whole.
func withRoomAfter(list []int) ([]int, []int) {
	backing := append(slices.Clone(list), slices.Repeat([]int{-7}, 120)...)
	return backing[:len(list)], backing
}

func TestPackFunctionsKeepTheirArguments(t *testing.T) {
	for _, f := range []func([]int) ([]int, bool){impl.Differences, impl.FromDifferences, impl.PackSamples, impl.UnpackSamples, impl.ReadableSamples, impl.WidthCounts} {
		for _, list := range append(goodSamples(), badSamples()[0], []int{10, 192, 0, 223, 73, 226, 236, 128}, []int{10, 192, 0, 223}, []int{1, 2, 3}) {
			arg, backing := withRoomAfter(list)
			want := slices.Clone(backing)
			got, _ := f(arg)
			first := slices.Clone(got)
			whole := got[:cap(got)]
			for i := range whole {
				whole[i] = 9
			}
			if !slices.Equal(backing, want) {
				t.Errorf("an argument changed: %v; want %v", backing, want)
			}
			if again, _ := f(arg); !slices.Equal(again, first) {
				t.Errorf("another result changed: %v; want %v", again, first)
			}
		}
	}
	for _, bytes := range [][]int{{10, 192, 0, 223}, {224, 1}, {5}} {
		arg, backing := withRoomAfter(bytes)
		want := slices.Clone(backing)
		n, ok := impl.TornAt(arg)
		if m, also := impl.TornAt(bytes); m != n || also != ok || !slices.Equal(backing, want) {
			t.Error("what stands behind the length counts", bytes, n, m)
		}
	}
}
