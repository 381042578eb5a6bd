package tests

import (
	"math"
	"math/big"
	"slices"
	"testing"

	"loop.example/g01017/impl"
)

// layersOf returns layers with a Thick and a Speed each.
func layersOf(pairs ...[2]int) []impl.Earth {
	list := []impl.Earth{}
	for _, p := range pairs {
		list = append(list, impl.Earth{Thick: p[0], Speed: p[1]})
	}
	return list
}

// ordinaryModel returns layers that get faster, as most do.
func ordinaryModel() []impl.Earth {
	return layersOf([2]int{20, 5}, [2]int{15, 6}, [2]int{10, 8})
}

// equalLayers returns n layers with the same Thick and Speed.
func equalLayers(n int, thick int, speed int) []impl.Earth {
	return slices.Repeat(layersOf([2]int{thick, speed}), n)
}

// tiedModel returns layers via which, over the distance 40, a wave takes the same time.
func tiedModel() []impl.Earth {
	return layersOf([2]int{10, 5}, [2]int{10, 10}, [2]int{10, 20})
}

// modelWithCoarseFractions returns layers whose Speeds have no common factor, so that the times have great denominators.
func modelWithCoarseFractions(thick int) []impl.Earth {
	return layersOf([2]int{thick, 41}, [2]int{thick, 43}, [2]int{thick, 47}, [2]int{thick, 49}, [2]int{thick, 50})
}

// scatteredModel returns n valid layers, none thicker than thickest and none faster than fastest.
func scatteredModel(seed int, n int, thickest int, fastest int) []impl.Earth {
	// The upper digits of the numbers look more scattered than the lower ones.
	raw := numbers(seed, 2*n, 1000)
	list := []impl.Earth{}
	for i := range n {
		list = append(list, impl.Earth{Thick: 1 + raw[2*i]*thickest/1000, Speed: 1 + raw[2*i+1]*fastest/1000})
	}
	return list
}

func goodModels() [][]impl.Earth {
	good := [][]impl.Earth{
		ordinaryModel(), tiedModel(), modelWithCoarseFractions(1), modelWithCoarseFractions(200), modelWithCoarseFractions(7),
		equalLayers(1, 1, 1), equalLayers(1, 200, 50), equalLayers(1, 200, 1), equalLayers(1, 1, 50), equalLayers(1, 33, 7),
		equalLayers(5, 1, 1), equalLayers(5, 200, 50), equalLayers(5, 200, 1), equalLayers(5, 1, 50), equalLayers(3, 12, 9),
		// Slower and slower ones, and one that is slower than those around it.
		layersOf([2]int{10, 9}, [2]int{20, 7}, [2]int{30, 5}), layersOf([2]int{10, 5}, [2]int{20, 3}, [2]int{30, 8}),
		layersOf([2]int{1, 1}, [2]int{200, 50}), layersOf([2]int{200, 1}, [2]int{1, 50}), layersOf([2]int{1, 1}, [2]int{1, 50}), layersOf([2]int{1, 50}, [2]int{1, 1}),
	}
	for seed := range 60 {
		n := 1 + seed%impl.MaxEarth
		good = append(good, scatteredModel(seed, n, 200, 50), scatteredModel(seed+500, n, 12, 8))
	}
	return good
}

// badModels returns lists that are no models, each for one reason.
func badModels() [][]impl.Earth {
	bad := [][]impl.Earth{nil, {}, equalLayers(6, 20, 5), equalLayers(200, 20, 5)}
	wrong := []impl.Earth{{}}
	for _, n := range beyond(1, 200) {
		wrong = append(wrong, impl.Earth{Thick: n, Speed: 5})
	}
	for _, n := range beyond(1, 50) {
		wrong = append(wrong, impl.Earth{Thick: 20, Speed: n})
	}
	for _, e := range wrong {
		bad = append(bad, []impl.Earth{e}, []impl.Earth{e, {Thick: 20, Speed: 5}}, []impl.Earth{{Thick: 20, Speed: 5}, e}, append(equalLayers(4, 20, 5), e))
	}
	return bad
}

func someDistances() []int {
	return []int{0, 1, 2, 3, 7, 39, 40, 41, 60, 100, 173, 174, 241, 500, 999, 1000, 1024, 1999, 2000}
}

// tops returns the depths of the tops of all layers, and that of the model.
func tops(list []impl.Earth) []int {
	depths := []int{0}
	for i, e := range list {
		depths = append(depths, depths[i]+e.Thick)
	}
	return depths
}

// timeToBy returns the time to a depth, kilometer by kilometer.
func timeToBy(list []impl.Earth, depth int) *big.Rat {
	time := new(big.Rat)
	layer, bounds := 0, tops(list)
	for kilometer := range depth {
		for kilometer >= bounds[layer+1] {
			layer++
		}
		time.Add(time, big.NewRat(1, int64(list[layer].Speed)))
	}
	return time
}

func timeViaBy(list []impl.Earth, layer int, distance int) *big.Rat {
	down := timeToBy(list, tops(list)[layer])
	along := big.NewRat(int64(distance), int64(list[layer].Speed))
	return along.Add(along, down.Add(down, down))
}

// quickestBy returns the first layer with the smallest time over a distance, and this time.
func quickestBy(list []impl.Earth, distance int) (int, *big.Rat) {
	best, least := 0, timeViaBy(list, 0, distance)
	for layer := range list {
		if time := timeViaBy(list, layer, distance); time.Cmp(least) < 0 {
			best, least = layer, time
		}
	}
	return best, least
}

// wholeBelow returns the greatest whole number that is at most x, which is not negative.
func wholeBelow(x *big.Rat) int {
	return int(new(big.Int).Quo(x.Num(), x.Denom()).Int64())
}

// overtakesBy returns, from the crossing of the lines of the times, what OvertakesAt should.
func overtakesBy(list []impl.Earth, layer int) (int, bool) {
	distance := 0
	for above := range layer {
		faster := big.NewRat(1, int64(list[above].Speed))
		faster.Sub(faster, big.NewRat(1, int64(list[layer].Speed)))
		if faster.Sign() <= 0 {
			return 0, false
		}
		late := new(big.Rat).Sub(timeViaBy(list, layer, 0), timeViaBy(list, above, 0))
		distance = max(distance, 1+wholeBelow(late.Quo(late, faster)))
	}
	return distance, layer > 0 && distance <= 2000
}

// reachBy returns the greatest of the distances that can be gone via each layer.
func reachBy(list []impl.Earth, seconds int) int {
	reach := 0
	for layer, e := range list {
		rest := new(big.Rat).Sub(big.NewRat(int64(seconds), 1), timeViaBy(list, layer, 0))
		if rest.Sign() >= 0 {
			reach = max(reach, wholeBelow(rest.Mul(rest, big.NewRat(int64(e.Speed), 1))))
		}
	}
	return min(2000, reach)
}

func wantFraction(t *testing.T, name string, num int, den int, ok bool, want *big.Rat) {
	t.Helper()
	// A big.Rat is in lowest terms, as the result should be.
	if !ok || int64(num) != want.Num().Int64() || int64(den) != want.Denom().Int64() {
		t.Errorf("%s = %d, %d, %v; want %v, true", name, num, den, ok, want)
	}
}

func wantNoFraction(t *testing.T, name string, num int, den int, ok bool) {
	t.Helper()
	if ok || num != 0 || den != 0 {
		t.Errorf("%s = %d, %d, %v; want 0, 0, false", name, num, den, ok)
	}
}

func wantTimeTo(t *testing.T, list []impl.Earth, depth int, num int, den int) {
	t.Helper()
	if a, b, ok := impl.TimeTo(list, depth); !ok || a != num || b != den {
		t.Errorf("TimeTo(%v, %d) = %d, %d, %v; want %d, %d, true", list, depth, a, b, ok, num, den)
	}
}

func wantTimeVia(t *testing.T, list []impl.Earth, layer int, distance int, num int, den int) {
	t.Helper()
	if a, b, ok := impl.TimeVia(list, layer, distance); !ok || a != num || b != den {
		t.Errorf("TimeVia(%v, %d, %d) = %d, %d, %v; want %d, %d, true", list, layer, distance, a, b, ok, num, den)
	}
}

func wantFirst(t *testing.T, list []impl.Earth, distance int, layer int, num int, den int) {
	t.Helper()
	if k, ok := impl.FirstVia(list, distance); !ok || k != layer {
		t.Errorf("FirstVia(%v, %d) = %d, %v; want %d, true", list, distance, k, ok, layer)
	}
	if a, b, ok := impl.FirstTime(list, distance); !ok || a != num || b != den {
		t.Errorf("FirstTime(%v, %d) = %d, %d, %v; want %d, %d, true", list, distance, a, b, ok, num, den)
	}
}

func wantOvertakes(t *testing.T, list []impl.Earth, layer int, want int) {
	t.Helper()
	if d, ok := impl.OvertakesAt(list, layer); !ok || d != want {
		t.Errorf("OvertakesAt(%v, %d) = %d, %v; want %d, true", list, layer, d, ok, want)
	}
}

func wantNeverOvertakes(t *testing.T, list []impl.Earth, layer int) {
	t.Helper()
	if d, ok := impl.OvertakesAt(list, layer); ok || d != 0 {
		t.Errorf("OvertakesAt(%v, %d) = %d, %v; want 0, false", list, layer, d, ok)
	}
}

func wantReach(t *testing.T, list []impl.Earth, seconds int, want int) {
	t.Helper()
	if d, ok := impl.ReachIn(list, seconds); !ok || d != want {
		t.Errorf("ReachIn(%v, %d) = %d, %v; want %d, true", list, seconds, d, ok, want)
	}
}

func wantMeanSpeed(t *testing.T, list []impl.Earth, depth int, num int, den int) {
	t.Helper()
	if a, b, ok := impl.MeanSpeedTo(list, depth); !ok || a != num || b != den {
		t.Errorf("MeanSpeedTo(%v, %d) = %d, %d, %v; want %d, %d, true", list, depth, a, b, ok, num, den)
	}
}

func wantNoDepthTimes(t *testing.T, list []impl.Earth, depth int) {
	t.Helper()
	a, b, ok := impl.TimeTo(list, depth)
	wantNoFraction(t, "TimeTo", a, b, ok)
	a, b, ok = impl.MeanSpeedTo(list, depth)
	wantNoFraction(t, "MeanSpeedTo", a, b, ok)
}

func wantNoTimeVia(t *testing.T, list []impl.Earth, layer int, distance int) {
	t.Helper()
	a, b, ok := impl.TimeVia(list, layer, distance)
	wantNoFraction(t, "TimeVia", a, b, ok)
}

func wantNoFirst(t *testing.T, list []impl.Earth, distance int) {
	t.Helper()
	if k, ok := impl.FirstVia(list, distance); ok || k != 0 {
		t.Errorf("FirstVia(%v, %d) = %d, %v; want 0, false", list, distance, k, ok)
	}
	a, b, ok := impl.FirstTime(list, distance)
	wantNoFraction(t, "FirstTime", a, b, ok)
}

func wantNoReach(t *testing.T, list []impl.Earth, seconds int) {
	t.Helper()
	if d, ok := impl.ReachIn(list, seconds); ok || d != 0 {
		t.Errorf("ReachIn(%v, %d) = %d, %v; want 0, false", list, seconds, d, ok)
	}
}

func TestEarthLimits(t *testing.T) {
	if impl.MaxEarth != 5 {
		t.Error("limit", impl.MaxEarth)
	}
}

func TestIsModel(t *testing.T) {
	for _, list := range goodModels() {
		if !impl.IsModel(list) {
			t.Errorf("IsModel(%v) = false", list)
		}
	}
	for _, list := range badModels() {
		if impl.IsModel(list) {
			t.Errorf("IsModel(%v) = true", list)
		}
	}
	for n := range 20 {
		if impl.IsModel(equalLayers(n, 20, 5)) != (1 <= n && n <= 5) {
			t.Errorf("IsModel of %d layers = %v", n, n < 1 || n > 5)
		}
	}
	for n := -10; n <= 300; n++ {
		if impl.IsModel(equalLayers(2, n, 5)) != (1 <= n && n <= 200) || impl.IsModel(equalLayers(2, 20, n)) != (1 <= n && n <= 50) {
			t.Errorf("IsModel of Thick or Speed %d", n)
		}
	}
}

func TestTravelFunctionsFailForInvalidModels(t *testing.T) {
	for _, list := range badModels() {
		if n, ok := impl.ModelDepth(list); ok || n != 0 {
			t.Errorf("ModelDepth(%v) = %d, %v; want 0, false", list, n, ok)
		}
		for _, n := range []int{0, 1, 2, 20, 1000} {
			wantNoDepthTimes(t, list, n)
			wantNoFirst(t, list, n)
			wantNoReach(t, list, n)
		}
		for layer := range 7 {
			wantNoTimeVia(t, list, layer, 0)
			wantNoTimeVia(t, list, layer, 60)
			wantNeverOvertakes(t, list, layer)
		}
	}
}

func TestTravelFunctionsFailForInvalidNumbers(t *testing.T) {
	for _, list := range goodModels() {
		depth, _ := impl.ModelDepth(list)
		for _, n := range beyond(0, depth) {
			wantNoDepthTimes(t, list, n)
		}
		for _, layer := range beyond(0, len(list)-1) {
			wantNoTimeVia(t, list, layer, 0)
			wantNoTimeVia(t, list, layer, 60)
			wantNeverOvertakes(t, list, layer)
		}
		for _, distance := range beyond(0, 2000) {
			wantNoFirst(t, list, distance)
			for layer := range list {
				wantNoTimeVia(t, list, layer, distance)
			}
		}
		for _, seconds := range beyond(0, 100000) {
			wantNoReach(t, list, seconds)
		}
	}
}

func TestModelDepth(t *testing.T) {
	for _, list := range goodModels() {
		if n, ok := impl.ModelDepth(list); !ok || n != tops(list)[len(list)] {
			t.Errorf("ModelDepth(%v) = %d, %v", list, n, ok)
		}
	}
	for n := 1; n <= 5; n++ {
		for _, thick := range []int{1, 20, 199, 200} {
			if depth, ok := impl.ModelDepth(equalLayers(n, thick, 5)); !ok || depth != n*thick {
				t.Errorf("ModelDepth of %d layers of %d = %d, %v", n, thick, depth, ok)
			}
		}
	}
}

func TestTimeTo(t *testing.T) {
	list := ordinaryModel()
	wantTimeTo(t, list, 0, 0, 1)
	wantTimeTo(t, list, 1, 1, 5)
	wantTimeTo(t, list, 19, 19, 5)
	wantTimeTo(t, list, 20, 4, 1)
	wantTimeTo(t, list, 21, 25, 6)
	wantTimeTo(t, list, 34, 19, 3)
	wantTimeTo(t, list, 35, 13, 2)
	wantTimeTo(t, list, 36, 53, 8)
	wantTimeTo(t, list, 44, 61, 8)
	wantTimeTo(t, list, 45, 31, 4)
	wantNoDepthTimes(t, list, 46)
	wantNoDepthTimes(t, list, -1)
	wantTimeTo(t, equalLayers(1, 1, 1), 1, 1, 1)
	wantTimeTo(t, equalLayers(1, 1, 50), 1, 1, 50)
	wantTimeTo(t, equalLayers(5, 200, 1), 1000, 1000, 1)
	wantTimeTo(t, equalLayers(5, 200, 50), 1000, 20, 1)
	wantTimeTo(t, equalLayers(5, 200, 50), 0, 0, 1)
	wantNoDepthTimes(t, equalLayers(5, 200, 50), 1001)
	// 1/41 + 1/43 + 1/47 + 1/49 + 1/50.
	wantTimeTo(t, modelWithCoarseFractions(1), 5, 22195189, 203009450)
}

func TestTimeToEachDepth(t *testing.T) {
	for _, list := range goodModels() {
		depths := []int{}
		for _, top := range tops(list) {
			depths = append(depths, max(0, top-1), top, min(top+1, tops(list)[len(list)]), top/2)
		}
		for _, depth := range depths {
			num, den, ok := impl.TimeTo(list, depth)
			wantFraction(t, "TimeTo", num, den, ok, timeToBy(list, depth))
		}
	}
	for depth := range 46 {
		num, den, ok := impl.TimeTo(ordinaryModel(), depth)
		wantFraction(t, "TimeTo", num, den, ok, timeToBy(ordinaryModel(), depth))
	}
}

func TestTimeVia(t *testing.T) {
	list := ordinaryModel()
	wantTimeVia(t, list, 0, 0, 0, 1)
	wantTimeVia(t, list, 0, 1, 1, 5)
	wantTimeVia(t, list, 0, 100, 20, 1)
	wantTimeVia(t, list, 0, 2000, 400, 1)
	wantTimeVia(t, list, 1, 0, 8, 1)
	wantTimeVia(t, list, 1, 60, 18, 1)
	wantTimeVia(t, list, 1, 3, 17, 2)
	wantTimeVia(t, list, 1, 2000, 1024, 3)
	wantTimeVia(t, list, 2, 0, 13, 1)
	wantTimeVia(t, list, 2, 4, 27, 2)
	wantTimeVia(t, list, 2, 2000, 263, 1)
	wantNoTimeVia(t, list, 3, 60)
	wantNoTimeVia(t, list, -1, 60)
	wantNoTimeVia(t, list, 1, -1)
	wantNoTimeVia(t, list, 1, 2001)
	wantTimeVia(t, equalLayers(5, 200, 1), 4, 2000, 3600, 1)
	wantTimeVia(t, equalLayers(5, 1, 50), 4, 0, 4, 25)
	// How thick the layer itself is does not count, nor how thick or fast those below it are.
	for _, deep := range [][2]int{{1, 1}, {10, 8}, {200, 50}} {
		wantTimeVia(t, layersOf([2]int{20, 5}, [2]int{15, 6}, deep), 1, 60, 18, 1)
		wantTimeVia(t, layersOf([2]int{20, 5}, [2]int{deep[0], 6}, deep), 1, 60, 18, 1)
		wantTimeVia(t, layersOf([2]int{deep[0], 5}, deep), 0, 60, 12, 1)
	}
}

func TestTimeViaEachLayer(t *testing.T) {
	for _, list := range goodModels() {
		for layer := range list {
			for _, distance := range someDistances() {
				num, den, ok := impl.TimeVia(list, layer, distance)
				wantFraction(t, "TimeVia", num, den, ok, timeViaBy(list, layer, distance))
			}
		}
	}
}

func TestFirstViaAndItsTime(t *testing.T) {
	list := ordinaryModel()
	wantFirst(t, list, 0, 0, 0, 1)
	wantFirst(t, list, 1, 0, 1, 5)
	wantFirst(t, list, 100, 0, 20, 1)
	wantFirst(t, list, 173, 0, 173, 5)
	wantFirst(t, list, 174, 2, 139, 4)
	wantFirst(t, list, 240, 2, 43, 1)
	wantFirst(t, list, 2000, 2, 263, 1)
	wantFirst(t, list[:2], 239, 0, 239, 5)
	wantFirst(t, list[:2], 241, 1, 289, 6)
	wantFirst(t, list[:1], 2000, 0, 400, 1)
	wantNoFirst(t, list, -1)
	wantNoFirst(t, list, 2001)
	wantFirst(t, equalLayers(1, 200, 1), 2000, 0, 2000, 1)
	// Via a layer between others, before the deeper one overtakes it, too.
	steps := layersOf([2]int{1, 1}, [2]int{30, 10}, [2]int{1, 20})
	wantFirst(t, steps, 2, 0, 2, 1)
	wantFirst(t, steps, 3, 1, 23, 10)
	wantFirst(t, steps, 119, 1, 139, 10)
	wantFirst(t, steps, 121, 2, 281, 20)
}

func TestFirstViaTwoWaysWithTheSameTime(t *testing.T) {
	// The first two, and then the last two, of which the first one is taken.
	wantFirst(t, ordinaryModel()[:2], 240, 0, 48, 1)
	steps := layersOf([2]int{1, 1}, [2]int{30, 10}, [2]int{1, 20})
	wantFirst(t, steps, 120, 1, 14, 1)
	wantFirst(t, layersOf([2]int{5, 2}, [2]int{4, 4}), 20, 0, 10, 1)
	wantFirst(t, layersOf([2]int{5, 2}, [2]int{4, 4}), 21, 1, 41, 4)
	// All three of them.
	wantFirst(t, tiedModel(), 40, 0, 8, 1)
	wantFirst(t, tiedModel(), 39, 0, 39, 5)
	wantFirst(t, tiedModel(), 41, 2, 161, 20)
	// The first one and the last one, while the one between takes longer.
	wantFirst(t, layersOf([2]int{10, 5}, [2]int{10, 5}, [2]int{9, 10}), 80, 0, 16, 1)
	// The same time as a fraction: 2 * 7 / 3 + 28 / 6 and 28 / 3.
	wantFirst(t, layersOf([2]int{7, 3}, [2]int{1, 6}), 28, 0, 28, 3)
	wantFirst(t, equalLayers(5, 200, 50), 2000, 0, 40, 1)
}

func TestFirstViaWithAlmostTheSameTime(t *testing.T) {
	ties, near := 0, 0
	for _, list := range goodModels() {
		for layer := 1; layer < len(list); layer++ {
			at, ok := overtakesBy(list, layer)
			if !ok {
				continue
			}
			for distance := max(0, at-2); distance <= min(at+1, 2000); distance++ {
				want, least := quickestBy(list, distance)
				if k, ok := impl.FirstVia(list, distance); !ok || k != want {
					t.Errorf("FirstVia(%v, %d) = %d, %v; want %d, true", list, distance, k, ok, want)
				}
				num, den, ok := impl.FirstTime(list, distance)
				wantFraction(t, "FirstTime", num, den, ok, least)
				near++
				if layer != want && timeViaBy(list, layer, distance).Cmp(least) == 0 {
					ties++
				}
			}
		}
	}
	if ties < 10 || near < 200 {
		t.Error("only", ties, "ties in", near)
	}
}

func TestFirstTimeIsTheSmallestOne(t *testing.T) {
	for _, list := range goodModels() {
		for _, distance := range someDistances() {
			layer, least := quickestBy(list, distance)
			wantFirst(t, list, distance, layer, int(least.Num().Int64()), int(least.Denom().Int64()))
		}
	}
}

// Promise 8.
func TestAGreaterDistanceNeverHasASmallerFirstTime(t *testing.T) {
	changes := 0
	for _, list := range goodModels() {
		before := new(big.Rat)
		via := 0
		for distance := range 2001 {
			num, den, ok := impl.FirstTime(list, distance)
			if !ok || den < 1 {
				t.Fatalf("FirstTime(%v, %d) = %d, %d, %v", list, distance, num, den, ok)
			}
			time := big.NewRat(int64(num), int64(den))
			// It is even greater, since no layer lets a wave go on in no time.
			if distance > 0 && time.Cmp(before) <= 0 {
				t.Errorf("over %d in %v the time is %v, and %v over one less", distance, list, time, before)
			}
			before = time
			layer, ok := impl.FirstVia(list, distance)
			if !ok || layer < via {
				t.Errorf("FirstVia(%v, %d) = %d, %v, and %d over one less", list, distance, layer, ok, via)
			}
			if layer != via {
				changes++
			}
			via = layer
		}
		wantReach(t, list, 100000, 2000)
	}
	if changes < 50 {
		t.Error("only", changes, "layers came first")
	}
}

func TestOvertakesAt(t *testing.T) {
	list := ordinaryModel()
	wantOvertakes(t, list, 1, 241)
	wantOvertakes(t, list, 2, 174)
	wantOvertakes(t, list[:2], 1, 241)
	wantNeverOvertakes(t, list, 3)
	wantNeverOvertakes(t, list, -1)
	// With the same time it has not overtaken yet.
	wantOvertakes(t, tiedModel(), 1, 41)
	wantOvertakes(t, tiedModel(), 2, 41)
	wantOvertakes(t, layersOf([2]int{5, 2}, [2]int{4, 4}), 1, 21)
	wantOvertakes(t, layersOf([2]int{1, 1}, [2]int{1, 3}), 1, 4)
	// All above it, not just the one right above, and not just the first one.
	wantOvertakes(t, layersOf([2]int{1, 1}, [2]int{30, 10}, [2]int{1, 20}), 2, 121)
	wantOvertakes(t, layersOf([2]int{30, 10}, [2]int{1, 1}, [2]int{1, 20}), 2, 161)
}

func TestOvertakesAtTheEnds(t *testing.T) {
	// At 2000, and with a time that is the same at 2000, so that it would be 2001.
	wantOvertakes(t, layersOf([2]int{102, 44}, [2]int{7, 49}), 1, 2000)
	wantOvertakes(t, layersOf([2]int{119, 37}, [2]int{7, 42}), 1, 2000)
	wantOvertakes(t, layersOf([2]int{111, 8}, [2]int{7, 9}), 1, 1999)
	wantNeverOvertakes(t, layersOf([2]int{50, 19}, [2]int{7, 20}), 1)
	wantNeverOvertakes(t, layersOf([2]int{139, 31}, [2]int{7, 36}), 1)
	wantNeverOvertakes(t, layersOf([2]int{200, 49}, [2]int{7, 50}), 1)
	// At 0 the first layer takes no time, so that 3 is the least distance of all.
	wantOvertakes(t, layersOf([2]int{1, 1}, [2]int{1, 4}), 1, 3)
	wantOvertakes(t, layersOf([2]int{1, 1}, [2]int{200, 50}), 1, 3)
	for _, list := range goodModels() {
		wantFirst(t, list, 0, 0, 0, 1)
		for layer := range list {
			if d, ok := impl.OvertakesAt(list, layer); ok && d < 3 {
				t.Errorf("OvertakesAt(%v, %d) = %d", list, layer, d)
			}
		}
	}
}

func TestOvertakesAtNever(t *testing.T) {
	// The first layer has none above it.
	for _, list := range goodModels() {
		wantNeverOvertakes(t, list, 0)
	}
	// Those that are slower, or as fast, and one that is overtaken by the first one.
	slower := layersOf([2]int{10, 9}, [2]int{20, 7}, [2]int{30, 5})
	wantNeverOvertakes(t, slower, 1)
	wantNeverOvertakes(t, slower, 2)
	for layer := range 5 {
		wantNeverOvertakes(t, equalLayers(5, 1, 50), layer)
		wantNeverOvertakes(t, equalLayers(5, 1, 1), layer)
	}
	// Faster than the one right above, but not than the first one, and the other way round.
	wantNeverOvertakes(t, layersOf([2]int{10, 9}, [2]int{10, 5}, [2]int{10, 7}), 2)
	wantNeverOvertakes(t, layersOf([2]int{10, 5}, [2]int{10, 9}, [2]int{10, 7}), 2)
	wantOvertakes(t, layersOf([2]int{10, 5}, [2]int{10, 9}, [2]int{10, 7}), 1, 46)
	// A slower one between is no hindrance.
	wantOvertakes(t, layersOf([2]int{10, 5}, [2]int{12, 3}, [2]int{30, 10}), 2, 121)
	wantNeverOvertakes(t, layersOf([2]int{10, 5}, [2]int{12, 3}, [2]int{30, 10}), 1)
}

func TestOvertakesAtEachLayer(t *testing.T) {
	seen := map[bool]int{}
	for _, list := range goodModels() {
		for layer := range list {
			want, ok := overtakesBy(list, layer)
			seen[ok]++
			if ok {
				wantOvertakes(t, list, layer, want)
			} else {
				wantNeverOvertakes(t, list, layer)
			}
		}
	}
	if seen[true] < 50 || seen[false] < 50 {
		t.Error("too few layers of one kind", seen)
	}
}

func TestOvertakesAtIsTheSmallestDistance(t *testing.T) {
	for _, list := range goodModels() {
		for layer := range list {
			at, ok := impl.OvertakesAt(list, layer)
			if !ok {
				continue
			}
			for _, distance := range []int{0, at / 2, at - 1, at, at + 1, 2000} {
				ahead := true
				for above := range layer {
					ahead = ahead && timeViaBy(list, layer, distance).Cmp(timeViaBy(list, above, distance)) < 0
				}
				if ahead != (distance >= at) {
					t.Errorf("OvertakesAt(%v, %d) = %d, but over %d it is %v", list, layer, at, distance, ahead)
				}
			}
		}
	}
}

func TestReachIn(t *testing.T) {
	list := ordinaryModel()
	wantReach(t, list, 0, 0)
	wantReach(t, list, 1, 5)
	wantReach(t, list, 20, 100)
	wantReach(t, list, 34, 170)
	wantReach(t, list, 35, 176)
	wantReach(t, list, 43, 240)
	wantReach(t, list, 262, 1992)
	wantReach(t, list, 263, 2000)
	wantReach(t, list, 264, 2000)
	wantReach(t, list, 100000, 2000)
	wantNoReach(t, list, -1)
	wantNoReach(t, list, 100001)
	slow := equalLayers(1, 200, 1)
	wantReach(t, slow, 0, 0)
	wantReach(t, slow, 1, 1)
	wantReach(t, slow, 1999, 1999)
	wantReach(t, slow, 2000, 2000)
	wantReach(t, slow, 2001, 2000)
	fast := equalLayers(1, 1, 50)
	wantReach(t, fast, 0, 0)
	wantReach(t, fast, 39, 1950)
	wantReach(t, fast, 40, 2000)
	// Where the times are no whole seconds, the last distance takes less than all of them.
	third := layersOf([2]int{1, 1}, [2]int{1, 3})
	wantReach(t, third, 3, 3)
	wantReach(t, third, 4, 6)
}

func TestReachInEachTime(t *testing.T) {
	for _, list := range goodModels() {
		seconds := []int{0, 1, 2, 3, 5, 10, 20, 33, 40, 57, 77, 100, 153, 263, 400, 999, 1999, 2000, 3600, 100000}
		for layer := range list {
			seconds = append(seconds, wholeBelow(timeViaBy(list, layer, 2000)), wholeBelow(timeViaBy(list, layer, 0)))
		}
		for _, n := range seconds {
			reach := reachBy(list, n)
			wantReach(t, list, n, reach)
			if _, time := quickestBy(list, reach); time.Cmp(big.NewRat(int64(n), 1)) > 0 {
				t.Errorf("over %d in %v it takes %v, not %d", reach, list, time, n)
			}
		}
	}
}

func TestMeanSpeedTo(t *testing.T) {
	list := ordinaryModel()
	wantMeanSpeed(t, list, 1, 5, 1)
	wantMeanSpeed(t, list, 20, 5, 1)
	wantMeanSpeed(t, list, 21, 126, 25)
	wantMeanSpeed(t, list, 35, 70, 13)
	wantMeanSpeed(t, list, 45, 180, 31)
	a, b, ok := impl.MeanSpeedTo(list, 0)
	wantNoFraction(t, "MeanSpeedTo of no depth", a, b, ok)
	wantNoDepthTimes(t, list, 46)
	wantNoDepthTimes(t, list, -1)
	wantMeanSpeed(t, equalLayers(1, 1, 1), 1, 1, 1)
	wantMeanSpeed(t, equalLayers(1, 200, 50), 1, 50, 1)
	wantMeanSpeed(t, equalLayers(5, 200, 50), 1000, 50, 1)
	wantMeanSpeed(t, equalLayers(5, 200, 1), 1000, 1, 1)
	wantMeanSpeed(t, layersOf([2]int{1, 1}, [2]int{1, 50}), 2, 100, 51)
	wantMeanSpeed(t, modelWithCoarseFractions(1), 5, 1015047250, 22195189)
}

func TestMeanSpeedToEachDepth(t *testing.T) {
	for _, list := range goodModels() {
		a, b, ok := impl.MeanSpeedTo(list, 0)
		wantNoFraction(t, "MeanSpeedTo of no depth", a, b, ok)
		deepest := tops(list)[len(list)]
		for _, depth := range append(tops(list)[1:], 1, (deepest+1)/2, max(1, deepest-1)) {
			want := big.NewRat(int64(depth), 1)
			want.Quo(want, timeToBy(list, depth))
			num, den, ok := impl.MeanSpeedTo(list, depth)
			wantFraction(t, "MeanSpeedTo", num, den, ok, want)
		}
	}
}

// callTravelFunctions calls each function of the chapter with list and with numbers of all kinds.
func callTravelFunctions(list []impl.Earth) {
	impl.IsModel(list)
	impl.ModelDepth(list)
	for _, n := range []int{math.MinInt, -1, 0, 1, 2, 4, 5, 20, 2000, 2001, 100000, math.MaxInt} {
		impl.TimeTo(list, n)
		impl.FirstVia(list, n)
		impl.FirstTime(list, n)
		impl.OvertakesAt(list, n)
		impl.ReachIn(list, n)
		impl.MeanSpeedTo(list, n)
		for _, distance := range []int{math.MinInt, 0, 60, math.MaxInt} {
			impl.TimeVia(list, n, distance)
		}
	}
}

func TestTravelFunctionsKeepTheirArguments(t *testing.T) {
	for _, list := range append(goodModels(), badModels()...) {
		backing := append(slices.Clone(list), slices.Repeat([]impl.Earth{{Thick: 7, Speed: 7}}, 10)...)
		want := slices.Clone(backing)
		callTravelFunctions(backing[:len(list)])
		if !slices.Equal(backing, want) {
			t.Errorf("an argument changed: %v; want %v", backing, want)
		}
	}
}

func TestTravelFunctionsReadNothingBehindTheLength(t *testing.T) {
	whole := append(ordinaryModel(), impl.Earth{}, impl.Earth{Thick: 9, Speed: 9})
	for n := range 4 {
		arg := whole[:n]
		if impl.IsModel(arg) != (n > 0) {
			t.Errorf("IsModel of the first %d = %v", n, n == 0)
		}
		wantNoTimeVia(t, arg, n, 60)
		wantNeverOvertakes(t, arg, n)
		if n == 0 {
			wantNoFirst(t, arg, 2000)
			wantNoDepthTimes(t, arg, 0)
			continue
		}
		depth := tops(arg)[n]
		if got, ok := impl.ModelDepth(arg); !ok || got != depth {
			t.Errorf("ModelDepth of the first %d = %d, %v; want %d, true", n, got, ok, depth)
		}
		wantNoDepthTimes(t, arg, depth+1)
		layer, least := quickestBy(arg, 2000)
		wantFirst(t, arg, 2000, layer, int(least.Num().Int64()), int(least.Denom().Int64()))
		wantReach(t, arg, 200, reachBy(arg, 200))
	}
}
