package tests

import (
	"cmp"
	"math"
	"slices"
	"testing"

	"loop.example/g01017/impl"
)

// pickAt returns a Pick of the P wave at station 7 by a program.
func pickAt(id int, tick int, after int) impl.Pick {
	return impl.Pick{Id: id, Station: 7, Wave: impl.WaveP, Tick: tick, Error: 10, After: after}
}

// pickWave returns a Pick that replaces none.
func pickWave(id int, station int, wave int, tick int, err int) impl.Pick {
	return impl.Pick{Id: id, Station: station, Wave: wave, Tick: tick, Error: err}
}

// pickBy returns a Pick of the P wave at station 7 by somebody.
func pickBy(id int, tick int, after int, by int) impl.Pick {
	return withPick(pickAt(id, tick, after), func(p *impl.Pick) { p.By = by })
}

// withPick returns p as change leaves it.
func withPick(p impl.Pick, change func(p *impl.Pick)) impl.Pick {
	change(&p)
	return p
}

// withPickAt returns list in which the Pick at a place is as change leaves it.
func withPickAt(list []impl.Pick, at int, change func(p *impl.Pick)) []impl.Pick {
	copied := slices.Clone(list)
	change(&copied[at])
	return copied
}

// pickChain returns n Picks with the Ids first, first+1 .., of which each one replaces the one before.
func pickChain(n int, first int) []impl.Pick {
	list := []impl.Pick{}
	for i := range n {
		list = append(list, pickAt(first+i, 100+7*i, 0))
		if i > 0 {
			list[i].After = first + i - 1
		}
	}
	return list
}

// singlePicks returns n Picks with the Ids 1, 2 .., of which none replaces another.
func singlePicks(n int) []impl.Pick {
	list := []impl.Pick{}
	for i := range n {
		list = append(list, pickWave(i+1, 1+i%3, i%2, 500-40*i, 5*i))
	}
	return list
}

// scatteredPicks returns n valid Picks at stations 1 and 2, of which many replace another one.
func scatteredPicks(seed int, n int) []impl.Pick {
	raw := numbers(seed, 8*n, 1000)
	list := []impl.Pick{}
	id := 0
	for i := range n {
		// The upper digits of the numbers look more scattered than the lower ones.
		below := func(place int, limit int) int { return raw[8*i+place] * limit / 1000 }
		id += 1 + below(0, 3)
		p := impl.Pick{Id: id, Station: 1 + below(1, 2), Wave: below(2, 2), Tick: below(3, 60), Error: below(4, 12), By: below(5, 3)}
		if current := currentBy(list); len(current) > 0 && below(6, 2) > 0 {
			old := current[below(7, len(current))]
			p.Station, p.Wave, p.After = old.Station, old.Wave, old.Id
		}
		list = append(list, p)
	}
	return list
}

// currentBy returns the Picks of list whose Id is After of none, in its order.
func currentBy(list []impl.Pick) []impl.Pick {
	replaced := map[int]bool{}
	for _, p := range list {
		replaced[p.After] = true
	}
	current := []impl.Pick{}
	for _, p := range list {
		if !replaced[p.Id] {
			current = append(current, p)
		}
	}
	return current
}

// arePicksBy reports what ArePicks should for a list of valid Picks.
func arePicksBy(list []impl.Pick) bool {
	byId := map[int]impl.Pick{}
	replaced := map[int]bool{}
	last := 0
	for _, p := range list {
		if p.Id <= last {
			return false
		}
		last = p.Id
		byId[p.Id] = p
	}
	for _, p := range list {
		if p.After == 0 {
			continue
		}
		old, ok := byId[p.After]
		if !ok || replaced[p.After] || old.Station != p.Station || old.Wave != p.Wave {
			return false
		}
		replaced[p.After] = true
	}
	return len(list) <= impl.MaxPicks
}

// picksById returns the Picks of list by their Ids.
func picksById(list []impl.Pick) map[int]impl.Pick {
	byId := map[int]impl.Pick{}
	for _, p := range list {
		byId[p.Id] = p
	}
	return byId
}

func idsOfPicks(list []impl.Pick) []int {
	ids := []int{}
	for _, p := range list {
		ids = append(ids, p.Id)
	}
	return ids
}

func goodPicks() []impl.Pick {
	p := impl.Pick{Id: 40, Station: 12, Wave: impl.WaveS, Tick: 300, Error: 20, By: 3, After: 39}
	return []impl.Pick{
		p,
		{Id: 1, Station: 1},
		{Id: 9999, Station: 99, Wave: impl.WaveS, Tick: impl.MaxTick, Error: 1000, By: 50, After: 9998},
		withPick(p, func(p *impl.Pick) { p.Id = 9999 }),
		withPick(p, func(p *impl.Pick) { p.Id, p.After = 1, 0 }),
		withPick(p, func(p *impl.Pick) { p.Id, p.After = 2, 1 }),
		withPick(p, func(p *impl.Pick) { p.Station = 1 }), withPick(p, func(p *impl.Pick) { p.Station = 99 }),
		withPick(p, func(p *impl.Pick) { p.Wave = impl.WaveP }),
		withPick(p, func(p *impl.Pick) { p.Tick = 0 }), withPick(p, func(p *impl.Pick) { p.Tick = impl.MaxTick }),
		withPick(p, func(p *impl.Pick) { p.Error = 0 }), withPick(p, func(p *impl.Pick) { p.Error = 1000 }),
		withPick(p, func(p *impl.Pick) { p.By = 0 }), withPick(p, func(p *impl.Pick) { p.By = 50 }),
		withPick(p, func(p *impl.Pick) { p.After = 0 }), withPick(p, func(p *impl.Pick) { p.After = 1 }),
	}
}

// badPicks returns Picks that are not valid, each for one reason.
func badPicks() []impl.Pick {
	p := impl.Pick{Id: 40, Station: 12, Wave: impl.WaveS, Tick: 300, Error: 20, By: 3, After: 39}
	bad := []impl.Pick{
		{},
		withPick(p, func(p *impl.Pick) { p.Id, p.After = 0, 0 }), withPick(p, func(p *impl.Pick) { p.Id, p.After = 10000, 0 }),
		withPick(p, func(p *impl.Pick) { p.Id, p.After = -1, 0 }), withPick(p, func(p *impl.Pick) { p.Id, p.After = math.MinInt, 0 }),
		withPick(p, func(p *impl.Pick) { p.Id, p.After = math.MinInt, math.MaxInt }),
		withPick(p, func(p *impl.Pick) { p.Id, p.After = 1, 1 }),
	}
	add := func(set func(p *impl.Pick, n int), numbers ...int) {
		for _, n := range numbers {
			bad = append(bad, withPick(p, func(p *impl.Pick) { set(p, n) }))
		}
	}
	add(func(p *impl.Pick, n int) { p.Id = n }, beyond(1, 9999)...)
	add(func(p *impl.Pick, n int) { p.Station = n }, beyond(1, 99)...)
	add(func(p *impl.Pick, n int) { p.Wave = n }, beyond(impl.WaveP, impl.WaveS)...)
	add(func(p *impl.Pick, n int) { p.Tick = n }, beyond(0, impl.MaxTick)...)
	add(func(p *impl.Pick, n int) { p.Error = n }, beyond(0, 1000)...)
	add(func(p *impl.Pick, n int) { p.By = n }, beyond(0, 50)...)
	add(func(p *impl.Pick, n int) { p.After = n }, beyond(0, 39)...)
	return bad
}

// ordinaryPicks returns Picks of two stations and both waves, of which 4 replaced 1, and 9 replaced 4.
func ordinaryPicks() []impl.Pick {
	return []impl.Pick{
		pickWave(1, 1, impl.WaveP, 100, 5), pickWave(2, 1, impl.WaveS, 300, 20), pickWave(3, 2, impl.WaveP, 90, 1),
		{Id: 4, Station: 1, Tick: 105, Error: 2, By: 3, After: 1},
		{Id: 9, Station: 1, Tick: 80, Error: 4, By: 5, After: 4},
	}
}

// picksAtLimits returns Picks at all limits.
func picksAtLimits() []impl.Pick {
	return []impl.Pick{
		{Id: 1, Station: 1}, {Id: 9998, Station: 99, Wave: impl.WaveS, Tick: impl.MaxTick, Error: 1000, By: 50},
		{Id: 9999, Station: 99, Wave: impl.WaveS, Tick: 0, Error: 1000, By: 50, After: 9998},
	}
}

func goodPickLists() [][]impl.Pick {
	good := [][]impl.Pick{
		nil, {}, ordinaryPicks(), picksAtLimits(), pickChain(3, 1), pickChain(12, 5), pickChain(12, 9988), singlePicks(1), singlePicks(12),
		// Equal Picks but for their Ids, and a Pick that replaced one that is not the last one.
		{pickAt(1, 5, 0), pickAt(2, 5, 0), pickAt(3, 5, 0)},
		{pickAt(1, 5, 0), pickAt(2, 6, 0), pickAt(5, 5, 1), pickAt(6, 5, 2), pickAt(7, 8, 5)},
	}
	for seed := range 150 {
		good = append(good, scatteredPicks(seed, 1+seed%impl.MaxPicks))
	}
	return good
}

// badPickLists returns lists that are no Picks, each for one reason.
func badPickLists() [][]impl.Pick {
	bad := [][]impl.Pick{
		singlePicks(13), pickChain(13, 1), singlePicks(200),
		// An Id twice, with the Picks before it or not, and descending ones.
		{pickAt(3, 5, 0), pickAt(3, 5, 0)}, {pickAt(3, 5, 0), pickAt(3, 9, 0)}, {pickAt(3, 5, 0), pickAt(2, 9, 0)},
		{pickAt(1, 5, 0), pickAt(3, 5, 0), pickAt(2, 9, 0)}, {pickAt(2, 5, 0), pickAt(1, 5, 0), pickAt(3, 9, 0)}, {pickAt(9999, 5, 0), pickAt(1, 5, 0)},
		// An After that does not occur, before, between and alone, or that comes later.
		{pickAt(3, 5, 2)}, {pickAt(1, 5, 0), pickAt(3, 5, 2)}, {pickAt(2, 5, 0), pickAt(3, 5, 1)}, {pickAt(2, 5, 0), pickAt(4, 5, 3), pickAt(5, 5, 0)},
		{pickAt(2, 5, 0), pickAt(3, 5, 4), pickAt(4, 5, 0)}, {pickAt(2, 5, 0), pickAt(3, 5, 3)}, {pickAt(3, 5, 2), pickAt(2, 5, 0)},
		// An After twice, side by side and apart.
		{pickAt(1, 5, 0), pickAt(2, 5, 1), pickAt(3, 5, 1)}, {pickAt(1, 5, 0), pickAt(2, 5, 1), pickAt(3, 5, 2), pickAt(4, 5, 1)},
		{pickAt(1, 5, 0), pickAt(2, 5, 0), pickAt(3, 5, 2), pickAt(4, 5, 1), pickAt(5, 5, 2)},
		// An After of another Station or another Wave.
		{pickWave(1, 8, impl.WaveP, 5, 0), pickAt(2, 5, 1)}, {pickWave(1, 7, impl.WaveS, 5, 0), pickAt(2, 5, 1)},
		{pickAt(1, 5, 0), pickAt(2, 5, 1), withPick(pickAt(3, 5, 2), func(p *impl.Pick) { p.Wave = impl.WaveS })},
		{pickAt(1, 5, 0), pickAt(2, 5, 1), withPick(pickAt(3, 5, 2), func(p *impl.Pick) { p.Station = 6 })},
		// The withdrawn first part of a history.
		pickChain(12, 1)[1:], ordinaryPicks()[1:], picksAtLimits()[2:],
	}
	for _, p := range badPicks() {
		bad = append(bad, []impl.Pick{p}, []impl.Pick{pickAt(1, 5, 0), p}, []impl.Pick{pickAt(39, 5, 0), p, pickAt(45, 5, 0)})
	}
	return bad
}

func wantRevised(t *testing.T, list []impl.Pick, id int, want impl.Pick) {
	t.Helper()
	got, newId, ok := impl.RevisePick(list, id, want.Tick, want.Error, want.By)
	if !ok || newId != want.Id || !slices.Equal(got, append(slices.Clone(list), want)) {
		t.Errorf("RevisePick(%v, %d, ..) = %v, %d, %v; want it with %v", list, id, got, newId, ok, want)
	}
}

func wantNotRevised(t *testing.T, list []impl.Pick, id int, tick int, err int, by int) {
	t.Helper()
	if got, newId, ok := impl.RevisePick(list, id, tick, err, by); ok || newId != 0 || len(got) != 0 {
		t.Errorf("RevisePick(%v, %d, %d, %d, %d) = %v, %d, %v; want none, 0, false", list, id, tick, err, by, got, newId, ok)
	}
}

func wantNotWithdrawn(t *testing.T, list []impl.Pick) {
	t.Helper()
	if got, ok := impl.WithdrawLast(list); ok || len(got) != 0 {
		t.Errorf("WithdrawLast(%v) = %v, %v; want none, false", list, got, ok)
	}
}

func wantHistory(t *testing.T, list []impl.Pick, id int, want ...int) {
	t.Helper()
	got, ok := impl.HistoryOf(list, id)
	wantIds(t, "HistoryOf", got, ok, want...)
}

func wantCurrent(t *testing.T, list []impl.Pick, want ...int) {
	t.Helper()
	got, ok := impl.CurrentPicks(list)
	wantIds(t, "CurrentPicks", got, ok, want...)
}

func wantPairedPicks(t *testing.T, list []impl.Pick, station int, want ...[]int) {
	t.Helper()
	if got, ok := impl.PairedPicks(list, station); !ok || !slices.EqualFunc(got, want, slices.Equal) {
		t.Errorf("PairedPicks(%v, %d) = %v, %v; want %v, true", list, station, got, ok, want)
	}
}

func wantNoPairedPicks(t *testing.T, list []impl.Pick, station int) {
	t.Helper()
	if got, ok := impl.PairedPicks(list, station); ok || len(got) != 0 {
		t.Errorf("PairedPicks(%v, %d) = %v, %v; want none, false", list, station, got, ok)
	}
}

func wantWindow(t *testing.T, p impl.Pick, low int, high int) {
	t.Helper()
	if a, b, ok := impl.WindowOf([]impl.Pick{p}, p.Id); !ok || a != low || b != high {
		t.Errorf("WindowOf(%v) = %d, %d, %v; want %d, %d, true", p, a, b, ok, low, high)
	}
}

func wantNoWindow(t *testing.T, list []impl.Pick, id int) {
	t.Helper()
	if a, b, ok := impl.WindowOf(list, id); ok || a != 0 || b != 0 {
		t.Errorf("WindowOf(%v, %d) = %d, %d, %v; want 0, 0, false", list, id, a, b, ok)
	}
}

func wantRevisions(t *testing.T, list []impl.Pick, corrected int, all int) {
	t.Helper()
	if a, b, ok := impl.Revisions(list); !ok || a != corrected || b != all {
		t.Errorf("Revisions(%v) = %d, %d, %v; want %d, %d, true", list, a, b, ok, corrected, all)
	}
}

func wantMoved(t *testing.T, list []impl.Pick, id int, by int) {
	t.Helper()
	if a, b, ok := impl.MovedMost(list); !ok || a != id || b != by {
		t.Errorf("MovedMost(%v) = %d, %d, %v; want %d, %d, true", list, a, b, ok, id, by)
	}
}

func wantNotMoved(t *testing.T, list []impl.Pick) {
	t.Helper()
	if a, b, ok := impl.MovedMost(list); ok || a != 0 || b != 0 {
		t.Errorf("MovedMost(%v) = %d, %d, %v; want 0, 0, false", list, a, b, ok)
	}
}

func TestPickLimits(t *testing.T) {
	if impl.MaxPicks != 12 || impl.WaveP != 0 || impl.WaveS != 1 {
		t.Error("limits", impl.MaxPicks, impl.WaveP, impl.WaveS)
	}
}

func TestIsPick(t *testing.T) {
	for _, p := range goodPicks() {
		if !impl.IsPick(p) {
			t.Errorf("IsPick(%v) = false", p)
		}
	}
	for _, p := range badPicks() {
		if impl.IsPick(p) {
			t.Errorf("IsPick(%v) = true", p)
		}
	}
}

func TestArePicks(t *testing.T) {
	for _, list := range goodPickLists() {
		if !impl.ArePicks(list) {
			t.Errorf("ArePicks(%v) = false", list)
		}
	}
	for _, list := range badPickLists() {
		if impl.ArePicks(list) {
			t.Errorf("ArePicks(%v) = true", list)
		}
	}
	for n := range 40 {
		if impl.ArePicks(singlePicks(n)) != (n <= 12) {
			t.Errorf("ArePicks of %d Picks = %v", n, n > 12)
		}
	}
}

func TestArePicksOfListsWithOnePickChanged(t *testing.T) {
	seen := map[bool]int{}
	for _, list := range goodPickLists() {
		for i, p := range list {
			near := [][]impl.Pick{
				slices.Delete(slices.Clone(list), i, i+1), slices.Insert(slices.Clone(list), i, p),
				withPickAt(list, i, func(p *impl.Pick) { p.Wave = 1 - p.Wave }), withPickAt(list, i, func(p *impl.Pick) { p.Station = 1 + p.Station%99 }),
				withPickAt(list, i, func(p *impl.Pick) { p.After = 0 }), withPickAt(list, i, func(p *impl.Pick) { p.Id = min(9999, p.Id+1) }),
			}
			for after := range min(p.Id, 25) {
				near = append(near, withPickAt(list, i, func(p *impl.Pick) { p.After = after }))
			}
			for _, x := range near {
				want := arePicksBy(x)
				seen[want]++
				if impl.ArePicks(x) != want {
					t.Errorf("ArePicks(%v) = %v", x, !want)
				}
			}
		}
	}
	if seen[true] < 500 || seen[false] < 500 {
		t.Error("too few lists of one kind", seen)
	}
}

func TestPickFunctionsFailForInvalidLists(t *testing.T) {
	for _, list := range badPickLists() {
		current, ok := impl.CurrentPicks(list)
		wantNoIds(t, "CurrentPicks", current, ok)
		for _, p := range list {
			history, ok := impl.HistoryOf(list, p.Id)
			wantNoIds(t, "HistoryOf", history, ok)
			wantNotRevised(t, list, p.Id, 100, 5, 1)
			wantNoWindow(t, list, p.Id)
			wantNoPairedPicks(t, list, p.Station)
		}
		wantNotWithdrawn(t, list)
		wantNoPairedPicks(t, list, 7)
		wantNotMoved(t, list)
		if a, b, ok := impl.Revisions(list); ok || a != 0 || b != 0 {
			t.Errorf("Revisions(%v) = %d, %d, %v; want 0, 0, false", list, a, b, ok)
		}
	}
}

func TestPickFunctionsFailForIdsThatAreNotInTheList(t *testing.T) {
	for _, list := range goodPickLists() {
		byId := picksById(list)
		for _, id := range append(beyond(1, 9999), 1, 2, 3, 4, 5, 6, 7, 8, 10, 11, 12, 13, 5000, 9997, 9998, 9999) {
			if _, ok := byId[id]; ok {
				continue
			}
			history, ok := impl.HistoryOf(list, id)
			wantNoIds(t, "HistoryOf", history, ok)
			wantNotRevised(t, list, id, 100, 5, 1)
			wantNoWindow(t, list, id)
		}
	}
}

func TestPickFunctionsFailForInvalidNumbers(t *testing.T) {
	list := ordinaryPicks()
	for _, station := range beyond(1, 99) {
		wantNoPairedPicks(t, list, station)
		wantNoPairedPicks(t, nil, station)
	}
	for _, station := range []int{1, 2, 3, 50, 99} {
		if _, ok := impl.PairedPicks(list, station); !ok {
			t.Errorf("PairedPicks of station %d fails", station)
		}
	}
	for _, id := range []int{2, 3, 9} {
		for _, tick := range beyond(0, impl.MaxTick) {
			wantNotRevised(t, list, id, tick, 5, 1)
		}
		for _, err := range beyond(0, 1000) {
			wantNotRevised(t, list, id, 100, err, 1)
		}
		for _, by := range beyond(0, 50) {
			wantNotRevised(t, list, id, 100, 5, by)
		}
	}
}

func TestPickFunctionsOfNoPicks(t *testing.T) {
	for _, list := range [][]impl.Pick{nil, {}} {
		wantCurrent(t, list)
		wantPairedPicks(t, list, 1)
		wantPairedPicks(t, list, 99)
		wantRevisions(t, list, 0, 0)
		wantNotMoved(t, list)
		wantNotWithdrawn(t, list)
	}
}

func TestCurrentPicks(t *testing.T) {
	wantCurrent(t, ordinaryPicks(), 9, 3, 2)
	wantCurrent(t, ordinaryPicks()[:4], 3, 4, 2)
	wantCurrent(t, ordinaryPicks()[:3], 3, 1, 2)
	wantCurrent(t, picksAtLimits(), 1, 9999)
	wantCurrent(t, singlePicks(1), 1)
	wantCurrent(t, singlePicks(12), 12, 11, 10, 9, 8, 7, 6, 5, 4, 3, 2, 1)
	wantCurrent(t, pickChain(12, 5), 16)
}

func TestCurrentPicksWithTheSameTick(t *testing.T) {
	wantCurrent(t, []impl.Pick{pickAt(1, 5, 0), pickAt(2, 5, 0), pickAt(3, 5, 0)}, 1, 2, 3)
	wantCurrent(t, []impl.Pick{pickAt(1, 5, 0), pickAt(2, 4, 0), pickAt(8, 5, 0), pickAt(9, 4, 0)}, 2, 9, 1, 8)
	// The replaced one has the same Tick too, and the other one comes first since its Id is smaller.
	wantCurrent(t, []impl.Pick{pickAt(1, 5, 0), pickAt(2, 5, 0), pickAt(3, 5, 1)}, 2, 3)
}

func TestCurrentPicksInOrder(t *testing.T) {
	for _, list := range goodPickLists() {
		current := currentBy(list)
		slices.SortFunc(current, func(a impl.Pick, b impl.Pick) int { return cmp.Compare(a.Tick*10000+a.Id, b.Tick*10000+b.Id) })
		wantCurrent(t, list, idsOfPicks(current)...)
	}
}

func TestHistoryOf(t *testing.T) {
	list := ordinaryPicks()
	wantHistory(t, list, 1, 1)
	wantHistory(t, list, 2, 2)
	wantHistory(t, list, 3, 3)
	wantHistory(t, list, 4, 4, 1)
	wantHistory(t, list, 9, 9, 4, 1)
	wantHistory(t, picksAtLimits(), 9999, 9999, 9998)
	wantHistory(t, pickChain(12, 1), 12, 12, 11, 10, 9, 8, 7, 6, 5, 4, 3, 2, 1)
	two := []impl.Pick{pickAt(1, 5, 0), pickAt(2, 6, 0), pickAt(5, 5, 1), pickAt(6, 5, 2), pickAt(7, 8, 5)}
	wantHistory(t, two, 7, 7, 5, 1)
	wantHistory(t, two, 6, 6, 2)
}

func TestHistoryOfEachPick(t *testing.T) {
	for _, list := range goodPickLists() {
		byId := picksById(list)
		for _, p := range list {
			want := []int{}
			for id := p.Id; id != 0; id = byId[id].After {
				want = append(want, id)
			}
			wantHistory(t, list, p.Id, want...)
		}
	}
}

func TestRevisePick(t *testing.T) {
	list := ordinaryPicks()
	wantRevised(t, list, 2, impl.Pick{Id: 10, Station: 1, Wave: impl.WaveS, Tick: 290, Error: 5, By: 1, After: 2})
	wantRevised(t, list, 3, impl.Pick{Id: 10, Station: 2, Wave: impl.WaveP, Tick: 0, Error: 0, By: 0, After: 3})
	wantRevised(t, list, 9, impl.Pick{Id: 10, Station: 1, Wave: impl.WaveP, Tick: impl.MaxTick, Error: 1000, By: 50, After: 9})
	// The same Tick and Error, made by the same one.
	wantRevised(t, list, 9, impl.Pick{Id: 10, Station: 1, Tick: 80, Error: 4, By: 5, After: 9})
	wantRevised(t, singlePicks(1), 1, impl.Pick{Id: 2, Station: 1, Tick: 500, After: 1})
}

func TestRevisePickThatIsNotCurrent(t *testing.T) {
	wantNotRevised(t, ordinaryPicks(), 1, 100, 5, 1)
	wantNotRevised(t, ordinaryPicks(), 4, 100, 5, 1)
	wantNotRevised(t, pickChain(2, 1), 1, 100, 5, 1)
	wantNotRevised(t, pickChain(2, 1), 1, 100, 10, 0)
}

func TestRevisePickTwice(t *testing.T) {
	list := singlePicks(2)
	once, first, _ := impl.RevisePick(list, 1, 480, 3, 2)
	wantNotRevised(t, once, 1, 470, 3, 2)
	wantRevised(t, once, first, impl.Pick{Id: 4, Station: 1, Tick: 470, Error: 2, By: 3, After: 3})
	twice, second, _ := impl.RevisePick(once, first, 470, 2, 3)
	wantHistory(t, twice, second, 4, 3, 1)
	wantCurrent(t, twice, 2, 4)
	wantNotRevised(t, twice, 1, 470, 3, 2)
	wantNotRevised(t, twice, first, 470, 3, 2)
}

func TestRevisePickBehindTheLastId(t *testing.T) {
	wantNotRevised(t, []impl.Pick{pickAt(9999, 5, 0)}, 9999, 5, 5, 1)
	wantNotRevised(t, []impl.Pick{pickAt(1, 5, 0), pickAt(9999, 5, 0)}, 1, 5, 5, 1)
	wantRevised(t, []impl.Pick{pickAt(9998, 5, 0)}, 9998, pickAt(9999, 5, 9998))
	wantRevised(t, []impl.Pick{pickAt(1, 5, 0), pickAt(9998, 5, 0)}, 1, pickAt(9999, 5, 1))
}

func TestRevisePickUntilTheListIsFull(t *testing.T) {
	list := singlePicks(1)
	for n := 2; n <= impl.MaxPicks; n++ {
		next, id, ok := impl.RevisePick(list, n-1, n, n, n)
		if !ok || id != n || len(next) != n {
			t.Fatalf("revision %d = %v, %d, %v", n, next, id, ok)
		}
		list = next
	}
	wantNotRevised(t, list, 12, 100, 5, 1)
	wantNotRevised(t, singlePicks(12), 1, 100, 5, 1)
	wantRevised(t, singlePicks(11), 11, impl.Pick{Id: 12, Station: 2, Tick: 1, Error: 2, By: 3, After: 11})
}

// Promise 7.
func TestARevisedPickIsCurrentAndTheOldOneIsNot(t *testing.T) {
	revised := 0
	for _, list := range goodPickLists() {
		current := idsOfPicks(currentBy(list))
		for _, p := range list {
			next, id, ok := impl.RevisePick(list, p.Id, (p.Tick+9)%50, p.Error/2, 1)
			isLast := len(list) == impl.MaxPicks || list[len(list)-1].Id == 9999
			if want := slices.Contains(current, p.Id) && !isLast; ok != want {
				t.Fatalf("RevisePick(%v, %d) = %v", list, p.Id, ok)
			}
			if !ok {
				continue
			}
			revised++
			now, ok := impl.CurrentPicks(next)
			if !ok || !slices.Contains(now, id) || slices.Contains(now, p.Id) || len(now) != len(current) {
				t.Errorf("after RevisePick(%v, %d) the current ones are %v, %v", list, p.Id, now, ok)
			}
			before, _ := impl.HistoryOf(list, p.Id)
			wantHistory(t, next, id, append([]int{id}, before...)...)
			// All that were there are still there, so that the old one is not lost.
			wantRevised(t, list, p.Id, impl.Pick{Id: id, Station: p.Station, Wave: p.Wave, Tick: (p.Tick + 9) % 50, Error: p.Error / 2, By: 1, After: p.Id})
		}
	}
	if revised < 300 {
		t.Error("only", revised, "Picks were revised")
	}
}

func TestWithdrawLast(t *testing.T) {
	for _, list := range goodPickLists() {
		if len(list) == 0 {
			continue
		}
		got, ok := impl.WithdrawLast(list)
		if !ok || !slices.Equal(got, list[:len(list)-1]) || !impl.ArePicks(got) {
			t.Errorf("WithdrawLast(%v) = %v, %v", list, got, ok)
		}
	}
}

func TestWithdrawLastThatIsARevision(t *testing.T) {
	list, id, _ := impl.RevisePick(ordinaryPicks(), 2, 290, 5, 1)
	wantCurrent(t, list, 9, 3, id)
	back, ok := impl.WithdrawLast(list)
	if !ok || !slices.Equal(back, ordinaryPicks()) {
		t.Errorf("withdrawn: %v, %v", back, ok)
	}
	wantCurrent(t, back, 9, 3, 2)
	// So can the revisions before it, and each time the one before is current again.
	list = pickChain(12, 5)
	for n := 11; n >= 1; n-- {
		list, ok = impl.WithdrawLast(list)
		wantCurrent(t, list, 4+n)
	}
	list, ok = impl.WithdrawLast(list)
	if !ok || len(list) != 0 {
		t.Errorf("all withdrawn: %v, %v", list, ok)
	}
	wantNotWithdrawn(t, list)
}

func TestPairedPicks(t *testing.T) {
	wantPairedPicks(t, ordinaryPicks(), 1, []int{9, 2})
	wantPairedPicks(t, ordinaryPicks()[:4], 1, []int{4, 2})
	wantPairedPicks(t, ordinaryPicks(), 2)
	wantPairedPicks(t, ordinaryPicks(), 3)
	// The s may have the smaller Id; both orders are by Id, not by Tick.
	list := []impl.Pick{
		pickWave(1, 5, impl.WaveS, 900, 10), pickWave(2, 5, impl.WaveP, 600, 10), pickWave(3, 5, impl.WaveP, 100, 10),
		pickWave(4, 5, impl.WaveS, 300, 10), pickWave(5, 6, impl.WaveP, 100, 10), pickWave(6, 6, impl.WaveS, 800, 10), pickWave(7, 5, impl.WaveS, 200, 10),
	}
	wantPairedPicks(t, list, 5, []int{2, 1}, []int{3, 1}, []int{3, 4}, []int{3, 7})
	wantPairedPicks(t, list, 6, []int{5, 6})
	// Once 3 has moved behind 4 and 7, and 1 before all, no pair is left but one.
	list = append(list, impl.Pick{Id: 8, Station: 5, Wave: impl.WaveP, Tick: 290, Error: 0, After: 3}, impl.Pick{Id: 9, Station: 5, Wave: impl.WaveS, Tick: 291, Error: 0, After: 1})
	wantPairedPicks(t, list, 5, []int{8, 9})
}

func TestPairedPicksWhereTheWindowsMeet(t *testing.T) {
	for _, errors := range [][2]int{{0, 0}, {10, 20}, {20, 10}, {0, 1000}, {1000, 0}, {1000, 1000}} {
		for tick := 2000; tick <= 2002; tick++ {
			p := pickWave(1, 5, impl.WaveP, tick-errors[0], errors[0])
			s := pickWave(2, 5, impl.WaveS, 2001+errors[1], errors[1])
			if tick < 2001 {
				wantPairedPicks(t, []impl.Pick{p, s}, 5, []int{1, 2})
			} else {
				wantPairedPicks(t, []impl.Pick{p, s}, 5)
			}
		}
	}
	// At the ends of time, windows that are cut there make no pair.
	wantPairedPicks(t, []impl.Pick{pickWave(1, 5, impl.WaveP, 0, 0), pickWave(2, 5, impl.WaveS, 1, 0), pickWave(3, 5, impl.WaveS, 0, 0), pickWave(4, 5, impl.WaveS, 5, 10)}, 5, []int{1, 2})
	wantPairedPicks(t, []impl.Pick{pickWave(1, 5, impl.WaveP, impl.MaxTick-5, 10), pickWave(2, 5, impl.WaveP, impl.MaxTick-5, 4), pickWave(3, 5, impl.WaveS, impl.MaxTick, 0)}, 5, []int{2, 3})
}

func TestPairedPicksOfEachStation(t *testing.T) {
	found := 0
	for _, list := range goodPickLists() {
		for station := 1; station <= 3; station++ {
			want := [][]int{}
			for _, p := range currentBy(list) {
				for _, s := range currentBy(list) {
					near := p.Station == station && s.Station == station && p.Wave == 0 && s.Wave == 1
					if near && s.Tick-p.Tick > p.Error+s.Error {
						want = append(want, []int{p.Id, s.Id})
					}
				}
			}
			found += len(want)
			wantPairedPicks(t, list, station, want...)
		}
	}
	if found < 100 {
		t.Error("only", found, "pairs")
	}
}

func TestWindowOf(t *testing.T) {
	for _, c := range [][4]int{
		{300, 20, 280, 320}, {300, 0, 300, 300}, {300, 300, 0, 600}, {300, 301, 0, 601}, {300, 299, 1, 599}, {0, 0, 0, 0}, {0, 1000, 0, 1000}, {1, 1000, 0, 1001},
		{1000, 1000, 0, 2000}, {1001, 1000, 1, 2001}, {999, 1000, 0, 1999}, {impl.MaxTick, 0, impl.MaxTick, impl.MaxTick},
		{impl.MaxTick, 1, impl.MaxTick - 1, impl.MaxTick}, {impl.MaxTick, 1000, impl.MaxTick - 1000, impl.MaxTick},
		{impl.MaxTick - 1000, 1000, impl.MaxTick - 2000, impl.MaxTick}, {impl.MaxTick - 1001, 1000, impl.MaxTick - 2001, impl.MaxTick - 1},
		{impl.MaxTick - 999, 1000, impl.MaxTick - 1999, impl.MaxTick},
	} {
		wantWindow(t, pickWave(40, 5, impl.WaveS, c[0], c[1]), c[2], c[3])
	}
	// Of a Pick that is not current, too.
	if a, b, ok := impl.WindowOf(ordinaryPicks(), 1); !ok || a != 95 || b != 105 {
		t.Error("of a replaced Pick", a, b, ok)
	}
	if a, b, ok := impl.WindowOf(ordinaryPicks(), 9); !ok || a != 76 || b != 84 {
		t.Error("of the last Pick", a, b, ok)
	}
}

func TestRevisions(t *testing.T) {
	wantRevisions(t, ordinaryPicks(), 1, 2)
	wantRevisions(t, ordinaryPicks()[:4], 1, 1)
	wantRevisions(t, ordinaryPicks()[:3], 0, 0)
	wantRevisions(t, pickChain(12, 5), 0, 11)
	for _, c := range [][3]int{{0, 0, 0}, {0, 1, 1}, {0, 50, 1}, {1, 0, 0}, {50, 0, 0}, {1, 1, 0}, {1, 2, 0}, {50, 1, 0}} {
		wantRevisions(t, []impl.Pick{pickBy(3, 5, 0, c[0]), pickBy(4, 5, 3, c[1])}, c[2], 1)
	}
	// By a person, by a program again and by a person again.
	wantRevisions(t, []impl.Pick{pickBy(1, 5, 0, 0), pickBy(2, 5, 1, 4), pickBy(3, 5, 2, 0), pickBy(4, 5, 3, 4)}, 2, 3)
	// Two that are made by persons and replace none.
	wantRevisions(t, []impl.Pick{pickBy(1, 5, 0, 9), pickBy(2, 5, 0, 4), pickBy(3, 5, 1, 0)}, 0, 1)
	for _, list := range goodPickLists() {
		byId := picksById(list)
		corrected, all := 0, 0
		for _, p := range list {
			if p.After == 0 {
				continue
			}
			all++
			if p.By > 0 && byId[p.After].By == 0 {
				corrected++
			}
		}
		wantRevisions(t, list, corrected, all)
	}
}

func TestMovedMost(t *testing.T) {
	wantMoved(t, ordinaryPicks(), 9, 25)
	wantMoved(t, ordinaryPicks()[:4], 4, 5)
	wantNotMoved(t, ordinaryPicks()[:3])
	wantNotMoved(t, singlePicks(12))
	wantMoved(t, picksAtLimits(), 9999, impl.MaxTick)
	// It is the last difference that counts, not that to the first one of the history.
	wantMoved(t, []impl.Pick{pickAt(1, 100, 0), pickAt(2, 140, 1), pickAt(3, 170, 2)}, 2, 40)
	wantMoved(t, []impl.Pick{pickAt(1, 100, 0), pickAt(2, 110, 1), pickAt(3, 60, 2), pickAt(4, 100, 3)}, 3, 50)
	// Not moved at all.
	wantMoved(t, []impl.Pick{pickAt(1, 100, 0), pickAt(2, 100, 1), pickAt(3, 100, 2)}, 2, 0)
}

func TestMovedMostOnTies(t *testing.T) {
	wantMoved(t, pickChain(12, 5), 6, 7)
	wantMoved(t, []impl.Pick{pickAt(1, 100, 0), pickAt(2, 90, 1), pickAt(3, 100, 2)}, 2, 10)
	wantMoved(t, []impl.Pick{pickAt(1, 100, 0), pickAt(2, 500, 0), pickAt(3, 510, 2), pickAt(4, 90, 1)}, 3, 10)
	wantMoved(t, []impl.Pick{pickAt(1, 100, 0), pickAt(2, 500, 0), pickAt(3, 509, 2), pickAt(4, 90, 1), pickAt(5, 100, 4)}, 4, 10)
}

func TestMovedMostOfEachList(t *testing.T) {
	for _, list := range goodPickLists() {
		byId := picksById(list)
		moved := [][2]int{}
		for _, p := range list {
			if p.After != 0 {
				moved = append(moved, [2]int{-max(p.Tick-byId[p.After].Tick, byId[p.After].Tick-p.Tick), p.Id})
			}
		}
		if len(moved) == 0 {
			wantNotMoved(t, list)
			continue
		}
		slices.SortFunc(moved, func(a [2]int, b [2]int) int { return slices.Compare(a[:], b[:]) })
		wantMoved(t, list, moved[0][1], -moved[0][0])
	}
}

// withPicksBehind returns list with room behind its length, and the whole of it.
func withPicksBehind(list []impl.Pick) ([]impl.Pick, []impl.Pick) {
	behind := impl.Pick{Id: 77, Station: 1, Tick: 77, After: 1}
	backing := append(slices.Clone(list), slices.Repeat([]impl.Pick{behind}, 20)...)
	return backing[:len(list)], backing
}

// spoilPicks overwrites all that a result has, its room included.
func spoilPicks(list []impl.Pick) {
	whole := list[:cap(list)]
	for i := range whole {
		whole[i] = impl.Pick{Id: -1}
	}
}

func TestPickFunctionsKeepTheirArguments(t *testing.T) {
	for _, list := range append(goodPickLists()[:40], badPickLists()[:20]...) {
		arg, backing := withPicksBehind(list)
		want := slices.Clone(backing)
		impl.ArePicks(arg)
		impl.CurrentPicks(arg)
		impl.Revisions(arg)
		impl.MovedMost(arg)
		rest, _ := impl.WithdrawLast(arg)
		spoilPicks(rest)
		for _, p := range list {
			impl.IsPick(p)
			impl.HistoryOf(arg, p.Id)
			impl.WindowOf(arg, p.Id)
			impl.PairedPicks(arg, p.Station)
			next, _, _ := impl.RevisePick(arg, p.Id, 5, 6, 7)
			spoilPicks(next)
		}
		if !slices.Equal(backing, want) {
			t.Errorf("an argument changed: %v; want %v", backing, want)
		}
	}
}

func TestPickFunctionsReadNothingBehindTheLength(t *testing.T) {
	whole := ordinaryPicks()
	for n := range len(whole) {
		arg, list := whole[:n], slices.Clone(whole[:n])
		current, ok := impl.CurrentPicks(list)
		wantCurrent(t, arg, current...)
		if !ok || len(current) != n-max(0, n-3) {
			t.Error("current ones of", n, current, ok)
		}
		wantRevisions(t, arg, max(0, n-3), max(0, n-3))
		for _, p := range whole[n:] {
			wantNoWindow(t, arg, p.Id)
		}
	}
}

func TestPairedPicksShareNoMemory(t *testing.T) {
	list := []impl.Pick{pickWave(1, 5, impl.WaveP, 1, 0), pickWave(2, 5, impl.WaveP, 2, 0), pickWave(3, 5, impl.WaveS, 9, 0)}
	for i, rest := range [][]int{{2, 3}, {1, 3}} {
		pairs, _ := impl.PairedPicks(list, 5)
		whole := pairs[i][:cap(pairs[i])]
		for j := range whole {
			whole[j] = -1
		}
		if !slices.Equal(pairs[1-i], rest) {
			t.Errorf("pairs %v", pairs)
		}
	}
	wantPairedPicks(t, list, 5, []int{1, 3}, []int{2, 3})
}
