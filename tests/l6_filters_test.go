package tests

import (
	"math"
	"math/big"
	"slices"
	"testing"

	"loop.example/g01017/impl"
)

// filter is a filter that takes samples and one number of low..high.
type filter struct {
	name      string
	low, high int
	apply     func([]int, int) ([]int, bool)
}

func filters() []filter {
	return []filter{
		{"MovingSums", 1, 10, impl.MovingSums},
		{"MovingMedians", 0, 3, impl.MovingMedians},
		{"Smoothed", 1, 100, impl.Smoothed},
		{"Clipped", 0, impl.MaxSample, impl.Clipped},
		{"EveryNth", 1, 10, impl.EveryNth},
		{"Comb", 1, 10, impl.Comb},
	}
}

// goodWeights returns lists of 1..5 weights: of one sign, of both, with 0, and at both limits.
func goodWeights() [][]int {
	good := [][]int{{2, -1}, {1, 0, -1}, {0, 0, 5}, {-3, -4}, {7, -8, 9, -10, 11}, {0}, {0, 0, 0, 0, 0}, {1, 2, 4, 8, 16}}
	for n := 1; n <= 5; n++ {
		good = append(good, signed(n, 100, -100)...)
		for seed := range 5 {
			list := numbers(seed+n, n, 201)
			for i := range list {
				list[i] -= 100
			}
			good = append(good, list)
		}
	}
	return good
}

// badWeights returns lists that are no weights, each for one reason.
func badWeights() [][]int {
	bad := [][]int{nil, {}, make([]int, 6), {1, 2, 3, 4, 5, 6}, {-1, 1, -1, 1, -1, 1}, make([]int, 5000)}
	for _, n := range append(beyond(-100, 100), 1<<32, math.MaxInt/2, 356) {
		bad = append(bad, []int{n}, []int{n, 1}, []int{1, n}, []int{1, n, 2}, []int{n, 1, 2, 3, 4}, []int{1, 2, 3, 4, n}, []int{n, -n})
	}
	return bad
}

// filterSamples returns samples for the filters: the lists of goodSamples, and all short ones of a few sizes.
func filterSamples() [][]int {
	return slices.Concat(goodSamples(), signed(3, -7, 0, 7, impl.MaxSample), signed(5, -2, 0, 3))
}

// wantEach checks the results of a filter with a number for all filterSamples.
func wantEach(t *testing.T, apply func([]int, int) ([]int, bool), n int, want func(x []int) []int) {
	t.Helper()
	for _, x := range filterSamples() {
		wantFiltered(t, apply, x, n, want(x)...)
	}
}

func wantFiltered(t *testing.T, f func([]int, int) ([]int, bool), x []int, n int, want ...int) {
	t.Helper()
	got, ok := f(x, n)
	if !ok || !slices.Equal(got, want) {
		t.Errorf("the result for %v and %d is %v, %v; want %v, true", x, n, got, ok, want)
	}
}

func wantWeighted(t *testing.T, x []int, weights []int, want ...int) {
	t.Helper()
	got, ok := impl.Weighted(x, weights)
	if !ok || !slices.Equal(got, want) {
		t.Errorf("Weighted(%v, %v) = %v, %v; want %v, true", x, weights, got, ok, want)
	}
}

func wantBound(t *testing.T, weights []int, want int) {
	t.Helper()
	if n, ok := impl.WeightBound(weights); !ok || n != want {
		t.Errorf("WeightBound(%v) = %d, %v; want %d, true", weights, n, ok, want)
	}
}

func wantTurns(t *testing.T, x []int, want ...int) {
	t.Helper()
	got, ok := impl.TurningPoints(x)
	if !ok || !slices.Equal(got, want) {
		t.Errorf("TurningPoints(%v) = %v, %v; want %v, true", x, got, ok, want)
	}
}

func TestFiltersFailForInvalidSamples(t *testing.T) {
	for _, x := range badSamples() {
		for _, f := range filters() {
			for _, n := range []int{f.low, f.low + 1, f.high} {
				got, ok := f.apply(x, n)
				wantNoNumbers(t, f.name, got, ok)
			}
		}
		for _, weights := range [][]int{{0}, {1}, {2, -1}, {100, 100, 100, 100, 100}} {
			got, ok := impl.Weighted(x, weights)
			wantNoNumbers(t, "Weighted", got, ok)
		}
		got, ok := impl.TurningPoints(x)
		wantNoNumbers(t, "TurningPoints", got, ok)
	}
}

func TestFiltersFailForInvalidNumbers(t *testing.T) {
	for _, f := range filters() {
		for _, n := range beyond(f.low, f.high) {
			for _, x := range [][]int{nil, {}, {5}, {1, 5, -2, 8}, ramp(impl.MaxTrace)} {
				got, ok := f.apply(x, n)
				wantNoNumbers(t, f.name, got, ok)
			}
		}
		for _, x := range [][]int{nil, {}, {5}, {1, 5, -2, 8}, ramp(impl.MaxTrace)} {
			for _, n := range []int{f.low, f.high} {
				if _, ok := f.apply(x, n); !ok {
					t.Error(f.name, "fails for", x, n)
				}
			}
		}
	}
}

func TestFiltersFailForInvalidWeights(t *testing.T) {
	for _, weights := range badWeights() {
		for _, x := range [][]int{nil, {}, {5}, {1, 5, -2, 8}, ramp(impl.MaxTrace)} {
			got, ok := impl.Weighted(x, weights)
			wantNoNumbers(t, "Weighted", got, ok)
		}
		if n, ok := impl.WeightBound(weights); ok || n != 0 {
			t.Errorf("WeightBound(%v) = %d, %v; want 0, false", weights, n, ok)
		}
	}
}

func TestFiltersOfNoSamples(t *testing.T) {
	for _, x := range [][]int{nil, {}} {
		for _, f := range filters() {
			wantFiltered(t, f.apply, x, f.low)
			wantFiltered(t, f.apply, x, f.high)
		}
		wantWeighted(t, x, []int{5})
		wantWeighted(t, x, []int{1, 2, 3, 4, 5})
		wantTurns(t, x)
	}
}

func TestFiltersOfOneSample(t *testing.T) {
	for _, x := range []int{0, 1, -1, 37, impl.MaxSample, -impl.MaxSample} {
		one := []int{x}
		for _, f := range filters() {
			for _, n := range []int{f.low, f.high} {
				switch {
				case f.name == "Comb" || f.name == "Clipped" && n == 0:
					wantFiltered(t, f.apply, one, n, 0)
				default:
					wantFiltered(t, f.apply, one, n, x)
				}
			}
		}
		wantWeighted(t, one, []int{-3}, -3*x)
		wantWeighted(t, one, []int{7, 100, -100, 50, 1}, 7*x)
		wantTurns(t, one)
	}
}

func TestMovingSums(t *testing.T) {
	x := []int{1, 5, -2, 8}
	wantFiltered(t, impl.MovingSums, x, 1, 1, 5, -2, 8)
	wantFiltered(t, impl.MovingSums, x, 2, 1, 6, 3, 6)
	wantFiltered(t, impl.MovingSums, x, 3, 1, 6, 4, 11)
	for n := 4; n <= 10; n++ {
		wantFiltered(t, impl.MovingSums, x, n, 1, 6, 4, 12)
	}
	wantFiltered(t, impl.MovingSums, []int{1, 2, 4, 8, 16, 32, 64, 128, 256, 512, 1024, 2048}, 10, 1, 3, 7, 15, 31, 63, 127, 255, 511, 1023, 2046, 4092)
	for _, sample := range []int{impl.MaxSample, -impl.MaxSample} {
		got, ok := impl.MovingSums(slices.Repeat([]int{sample}, impl.MaxTrace), 10)
		if !ok || len(got) != impl.MaxTrace || got[8] != 9*sample || got[9] != 10*sample || got[impl.MaxTrace-1] != 10*sample {
			t.Error("sums of the greatest samples", got, ok)
		}
	}
}

func TestMovingSumsOfEachLength(t *testing.T) {
	for n := 1; n <= 10; n++ {
		wantEach(t, impl.MovingSums, n, func(x []int) []int {
			upTo, list := sums(x), []int{}
			for i := range x {
				if i >= n {
					list = append(list, upTo[i]-upTo[i-n])
				} else {
					list = append(list, upTo[i])
				}
			}
			return list
		})
	}
}

func TestMovingMedians(t *testing.T) {
	x := []int{1, 5, -2, 8}
	wantFiltered(t, impl.MovingMedians, x, 0, 1, 5, -2, 8)
	wantFiltered(t, impl.MovingMedians, x, 1, 1, 1, 5, -2)
	wantFiltered(t, impl.MovingMedians, x, 2, 1, 1, 1, 5)
	wantFiltered(t, impl.MovingMedians, x, 3, 1, 1, 1, 1)
	wantFiltered(t, impl.MovingMedians, []int{9, 2}, 1, 2, 2)
	wantFiltered(t, impl.MovingMedians, []int{-9, -2}, 3, -9, -9)
	wantFiltered(t, impl.MovingMedians, []int{4, 4, 7, 7}, 3, 4, 4, 4, 4)
	wantFiltered(t, impl.MovingMedians, []int{70, 60, 50, 40, 30, 20, 10}, 3, 50, 50, 40, 40, 30, 30, 20)
	wantFiltered(t, impl.MovingMedians, []int{10, 80, 30, 60, 50, 40, 70, 20, 90}, 3, 30, 50, 40, 50, 50, 50, 50, 50, 40)
	wantFiltered(t, impl.MovingMedians, []int{impl.MaxSample, -impl.MaxSample, impl.MaxSample}, 1, -impl.MaxSample, impl.MaxSample, -impl.MaxSample)
}

// medianNear returns the one of the samples within reach of a place that has as many of them before it in order as the one in the middle has.
func medianNear(x []int, at int, reach int) int {
	near := []int{}
	for i, n := range x {
		if i-at <= reach && at-i <= reach {
			near = append(near, n)
		}
	}
	for _, m := range near {
		less, same := 0, 0
		for _, n := range near {
			if n < m {
				less++
			} else if n == m {
				same++
			}
		}
		if 2*less < len(near) && 2*(less+same) >= len(near) {
			return m
		}
	}
	return math.MaxInt
}

func TestMovingMediansOfEachReach(t *testing.T) {
	for reach := range 4 {
		wantEach(t, impl.MovingMedians, reach, func(x []int) []int {
			list := []int{}
			for i := range x {
				list = append(list, medianNear(x, i, reach))
			}
			return list
		})
	}
}

func TestSmoothed(t *testing.T) {
	x := []int{1, 5, -2, 8}
	wantFiltered(t, impl.Smoothed, x, 1, 1, 5, -2, 8)
	wantFiltered(t, impl.Smoothed, x, 2, 1, 3, 0, 4)
	wantFiltered(t, impl.Smoothed, x, 3, 1, 2, 0, 2)
	wantFiltered(t, impl.Smoothed, x, 100, 1, 1, 0, 0)
	wantFiltered(t, impl.Smoothed, []int{10, 9, 9, 9}, 100, 10, 9, 9, 9)
	wantFiltered(t, impl.Smoothed, []int{0, 99, 100, 101, 199, 200}, 100, 0, 0, 1, 2, 3, 4)
	wantFiltered(t, impl.Smoothed, []int{0, -1, -2, -100, -101, -300}, 100, 0, -1, -2, -3, -4, -7)
	wantFiltered(t, impl.Smoothed, []int{-5, -6, -7, -7}, 2, -5, -6, -7, -7)
	wantFiltered(t, impl.Smoothed, []int{6, 0, 0, 0, 0}, 3, 6, 4, 2, 1, 0)
	wantFiltered(t, impl.Smoothed, []int{-impl.MaxSample, impl.MaxSample, -impl.MaxSample}, 1, -impl.MaxSample, impl.MaxSample, -impl.MaxSample)
	wantFiltered(t, impl.Smoothed, []int{-impl.MaxSample, impl.MaxSample, -impl.MaxSample}, 3, -100000, -33334, -55556)
}

func TestSmoothedByEachNumber(t *testing.T) {
	for k := 1; k <= 100; k++ {
		wantEach(t, impl.Smoothed, k, func(x []int) []int {
			list := slices.Clone(x)
			for i := 1; i < len(x); i++ {
				// Div rounds down, since the divisor is greater than 0.
				step := new(big.Int).Div(big.NewInt(int64(x[i]-list[i-1])), big.NewInt(int64(k)))
				list[i] = list[i-1] + int(step.Int64())
			}
			return list
		})
	}
}

func TestClipped(t *testing.T) {
	x := []int{1, 5, -2, 8, 4, -4, -5, 0, 3, -3}
	wantFiltered(t, impl.Clipped, x, 4, 1, 4, -2, 4, 4, -4, -4, 0, 3, -3)
	wantFiltered(t, impl.Clipped, x, 0, 0, 0, 0, 0, 0, 0, 0, 0, 0, 0)
	wantFiltered(t, impl.Clipped, x, 1, 1, 1, -1, 1, 1, -1, -1, 0, 1, -1)
	wantFiltered(t, impl.Clipped, x, 5, 1, 5, -2, 5, 4, -4, -5, 0, 3, -3)
	wantFiltered(t, impl.Clipped, x, 8, x...)
	wantFiltered(t, impl.Clipped, x, impl.MaxSample, x...)
	limits := []int{impl.MaxSample, -impl.MaxSample, impl.MaxSample - 1, 1 - impl.MaxSample}
	wantFiltered(t, impl.Clipped, limits, impl.MaxSample, limits...)
	wantFiltered(t, impl.Clipped, limits, impl.MaxSample-1, impl.MaxSample-1, 1-impl.MaxSample, impl.MaxSample-1, 1-impl.MaxSample)
}

func TestClippedAtEachLevel(t *testing.T) {
	for _, level := range []int{0, 1, 2, 3, 4, 6, 7, 8, 95, 96, 100, 4192, impl.MaxSample - 1, impl.MaxSample} {
		wantEach(t, impl.Clipped, level, func(x []int) []int {
			list := []int{}
			for _, n := range x {
				switch {
				case n > level:
					list = append(list, level)
				case n < -level:
					list = append(list, -level)
				default:
					list = append(list, n)
				}
			}
			return list
		})
	}
}

func TestEveryNth(t *testing.T) {
	x := []int{1, 5, -2, 8, 3, 9, 4}
	wantFiltered(t, impl.EveryNth, x, 1, x...)
	wantFiltered(t, impl.EveryNth, x, 2, 1, -2, 3, 4)
	wantFiltered(t, impl.EveryNth, x, 3, 1, 8, 4)
	wantFiltered(t, impl.EveryNth, x, 4, 1, 3)
	wantFiltered(t, impl.EveryNth, x, 5, 1, 9)
	wantFiltered(t, impl.EveryNth, x, 6, 1, 4)
	for n := 7; n <= 10; n++ {
		wantFiltered(t, impl.EveryNth, x, n, 1)
	}
}

func TestEveryNthWhereTheLastOneIsMetOrMissed(t *testing.T) {
	for n := 1; n <= 10; n++ {
		for count := 0; count*n+1 <= impl.MaxTrace; count++ {
			x := ramp(count*n + 1)
			want := []int{}
			for i := range count + 1 {
				want = append(want, x[i*n])
			}
			wantFiltered(t, impl.EveryNth, x, n, want...)
			wantFiltered(t, impl.EveryNth, x[:count*n], n, want[:count]...)
			if n > 1 && count*n+2 <= impl.MaxTrace {
				wantFiltered(t, impl.EveryNth, ramp(count*n+2), n, want...)
			}
		}
	}
}

func TestComb(t *testing.T) {
	wantFiltered(t, impl.Comb, []int{5, 7, 4}, 1, 0, 2, -3)
	x := []int{1, 5, -2, 8}
	wantFiltered(t, impl.Comb, x, 1, 0, 4, -7, 10)
	wantFiltered(t, impl.Comb, x, 2, 0, 0, -3, 3)
	wantFiltered(t, impl.Comb, x, 3, 0, 0, 0, 7)
	for lag := 4; lag <= 10; lag++ {
		wantFiltered(t, impl.Comb, x, lag, 0, 0, 0, 0)
	}
	wantFiltered(t, impl.Comb, []int{1, 2, 4, 8, 16, 32, 64, 128, 256, 512, 1024, 2048}, 10, 0, 0, 0, 0, 0, 0, 0, 0, 0, 0, 1023, 2046)
	wantFiltered(t, impl.Comb, []int{impl.MaxSample, -impl.MaxSample, impl.MaxSample}, 1, 0, -2*impl.MaxSample, 2*impl.MaxSample)
}

func TestCombOfEachLag(t *testing.T) {
	for lag := 1; lag <= 10; lag++ {
		wantEach(t, impl.Comb, lag, func(x []int) []int {
			list := []int{}
			for i, n := range x {
				if i < lag {
					n = 0
				} else {
					n -= x[i-lag]
				}
				list = append(list, n)
			}
			return list
		})
	}
}

func TestWeighted(t *testing.T) {
	x := []int{1, 5, -2, 8}
	wantWeighted(t, x, []int{1}, x...)
	wantWeighted(t, x, []int{-1}, -1, -5, 2, -8)
	wantWeighted(t, x, []int{0}, 0, 0, 0, 0)
	wantWeighted(t, x, []int{100}, 100, 500, -200, 800)
	wantWeighted(t, x, []int{2, -1}, 2, 9, -9, 18)
	wantWeighted(t, x, []int{0, 1}, 0, 1, 5, -2)
	wantWeighted(t, x, []int{0, 0, 0, 1}, 0, 0, 0, 1)
	wantWeighted(t, x, []int{1, 10, 100, -100}, 1, 15, 148, 388)
	wantWeighted(t, []int{1, 10, 100, 1000, 10000, 100000}, []int{1, 2, 3, 4, 5}, 1, 12, 123, 1234, 12345, 123450)
	wantWeighted(t, []int{1, 1, 1, 1, 1, 1}, []int{-100, 100, -100, 100, -100}, -100, 0, -100, 0, -100, -100)
}

func TestWeightedWithFewerSamplesThanWeights(t *testing.T) {
	weights := []int{7, -11, 13, -17, 19}
	wantWeighted(t, nil, weights)
	wantWeighted(t, []int{3}, weights, 21)
	wantWeighted(t, []int{3, 5}, weights, 21, 2)
	wantWeighted(t, []int{3, 5, 1}, weights, 21, 2, -9)
	wantWeighted(t, []int{3, 5, 1, -2}, weights, 21, 2, -9, -11)
	wantWeighted(t, []int{3, 5, 1, -2, 0}, weights, 21, 2, -9, -11, 7)
	for n := 2; n <= 5; n++ {
		for count := range n {
			for seed := range 20 {
				x := numbers(seed, count, impl.MaxSample)
				want, ok := impl.Weighted(x, weights[:max(1, count)])
				wantNumbers(t, "Weighted", want, ok, weightedBy(x, weights[:n]))
				wantWeighted(t, x, weights[:n], want...)
			}
		}
	}
}

// weightedBy returns the weighted sums: each sample adds to its own place and to those behind it.
func weightedBy(x []int, weights []int) []int {
	list := make([]int, len(x)+len(weights))
	for i, n := range x {
		for j, w := range weights {
			list[i+j] += n * w
		}
	}
	return list[:len(x)]
}

func TestWeightedByEachWeights(t *testing.T) {
	for _, weights := range goodWeights() {
		for _, x := range filterSamples() {
			got, ok := impl.Weighted(x, weights)
			wantNumbers(t, "Weighted", got, ok, weightedBy(x, weights))
		}
	}
}

func TestWeightBound(t *testing.T) {
	wantBound(t, []int{2, -1}, 300000)
	wantBound(t, []int{0}, 0)
	wantBound(t, []int{0, 0, 0, 0, 0}, 0)
	wantBound(t, []int{1}, 100000)
	wantBound(t, []int{-1}, 100000)
	wantBound(t, []int{-3, -4}, 700000)
	wantBound(t, []int{-1, 0, 1}, 200000)
	wantBound(t, []int{1, -2, 3, -4, 5}, 1500000)
	for n := 1; n <= 5; n++ {
		for _, weights := range signed(n, 100, -100) {
			wantBound(t, weights, n*10000000)
		}
	}
}

// Promise 6.
func TestNoWeightedSumIsGreaterThanTheBound(t *testing.T) {
	for _, weights := range goodWeights() {
		bound, ok := impl.WeightBound(weights)
		if !ok {
			t.Fatal("no bound", weights)
		}
		for _, x := range filterSamples() {
			list, ok := impl.Weighted(x, weights)
			if !ok || len(list) != len(x) {
				t.Fatal("not a sum for each sample", x, weights, list, ok)
			}
			for _, n := range list {
				if n > bound || -n > bound {
					t.Fatal("a sum is greater than the bound", x, weights, n, bound)
				}
			}
		}
	}
}

// Promise 6, and the bound is no greater than the greatest sum, with both signs.
func TestTheBoundIsMet(t *testing.T) {
	for _, weights := range goodWeights() {
		bound, _ := impl.WeightBound(weights)
		for _, sign := range []int{1, -1} {
			x := []int{}
			for _, w := range slices.Backward(weights) {
				if w < 0 {
					x = append(x, -sign*impl.MaxSample)
				} else {
					x = append(x, sign*impl.MaxSample)
				}
			}
			list, ok := impl.Weighted(x, weights)
			if !ok || len(list) != len(x) || list[len(list)-1] != sign*bound {
				t.Errorf("Weighted(%v, %v) = %v, %v; want the bound %d at the end", x, weights, list, ok, sign*bound)
			}
		}
	}
}

func TestTurningPoints(t *testing.T) {
	wantTurns(t, []int{1, 5, -2, 8}, 1, 2)
	wantTurns(t, []int{5, 1})
	wantTurns(t, []int{1, 5})
	wantTurns(t, []int{1, 5, 2}, 1)
	wantTurns(t, []int{5, 1, 2}, 1)
	wantTurns(t, []int{-5, -9, -5}, 1)
	wantTurns(t, []int{1, 2, 3})
	wantTurns(t, []int{3, 2, 1})
	wantTurns(t, []int{2, 2, 2})
	wantTurns(t, []int{1, 2, 2})
	wantTurns(t, []int{2, 2, 1})
	wantTurns(t, []int{2, 1, 1})
	wantTurns(t, []int{1, 1, 2})
	wantTurns(t, []int{1, 3, 3, 1})
	wantTurns(t, []int{3, 1, 1, 3})
	wantTurns(t, []int{9, 1, 2, 3, 0, 9}, 1, 3, 4)
	wantTurns(t, []int{9, 1, 2, 8}, 1)
	wantTurns(t, []int{impl.MaxSample, -impl.MaxSample, impl.MaxSample, -impl.MaxSample}, 1, 2)
	swings, inner := []int{}, []int{}
	for i := range impl.MaxTrace {
		swings = append(swings, i%2)
		inner = append(inner, i)
	}
	wantTurns(t, swings, inner[1:impl.MaxTrace-1]...)
}

func TestTurningPointsOfAllShortSamples(t *testing.T) {
	for _, x := range append(filterSamples(), signed(6, -1, 0, 1)...) {
		want := []int{}
		list := steps(x)
		for i := 2; i < len(list); i++ {
			if list[i-1] > 0 && list[i] < 0 || list[i-1] < 0 && list[i] > 0 {
				want = append(want, i-1)
			}
		}
		wantTurns(t, x, want...)
	}
}

// wantKept checks that f changes nothing of samples or behind them, reads nothing behind them, and that its results share no memory.
func wantKept(t *testing.T, name string, x []int, f func([]int) ([]int, bool)) {
	t.Helper()
	want, ok := f(slices.Clip(slices.Clone(x)))
	arg, backing := withRoomAfter(x)
	before := slices.Clone(backing)
	got, also := f(arg)
	if also != ok || !slices.Equal(got, want) {
		t.Errorf("%s of %v with room behind it = %v, %v; want %v, %v", name, x, got, also, want, ok)
	}
	whole := got[:cap(got)]
	for i := range whole {
		whole[i] = 9
	}
	if !slices.Equal(backing, before) {
		t.Errorf("%s changed its argument: %v; want %v", name, backing, before)
	}
	if again, _ := f(arg); !slices.Equal(again, want) {
		t.Errorf("%s changed another result: %v; want %v", name, again, want)
	}
}

func TestFiltersKeepTheirArguments(t *testing.T) {
	for _, x := range append(goodSamples(), badSamples()[0], []int{9, 4, 7, 1, 8}) {
		for _, f := range filters() {
			for _, n := range []int{f.low - 1, f.low, f.low + 1, f.high, f.high + 1} {
				wantKept(t, f.name, x, func(x []int) ([]int, bool) { return f.apply(x, n) })
			}
		}
		wantKept(t, "TurningPoints", x, impl.TurningPoints)
		for _, weights := range [][]int{{1}, {2, -1}, {1, 2, 3, 4, 5}, {1, 2, 3, 4, 5, 6}, nil} {
			wantKept(t, "Weighted", x, func(x []int) ([]int, bool) { return impl.Weighted(x, weights) })
		}
	}
	for _, weights := range append(goodWeights(), badWeights()[:4]...) {
		wantKept(t, "Weighted", weights, func(weights []int) ([]int, bool) { return impl.Weighted([]int{1, 5, -2, 8}, weights) })
		arg, backing := withRoomAfter(weights)
		before := slices.Clone(backing)
		n, ok := impl.WeightBound(arg)
		if m, also := impl.WeightBound(slices.Clone(weights)); m != n || also != ok || !slices.Equal(backing, before) {
			t.Error("WeightBound changes its argument, or reads behind it", weights, n, m)
		}
	}
}
