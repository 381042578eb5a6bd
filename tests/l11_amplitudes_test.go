package tests

import (
	"slices"
	"strconv"
	"testing"

	"loop.example/g01017/impl"
)

// tableOf returns the table with pairs of Far and Bonus, valid or not.
func tableOf(rows ...[2]int) []impl.TableRow {
	table := []impl.TableRow{}
	for _, r := range rows {
		table = append(table, impl.TableRow{Far: r[0], Bonus: r[1]})
	}
	return table
}

// tableOfLength returns a table with n rows from 20 kilometers on, of which no two have the same slope behind them.
func tableOfLength(n int) []impl.TableRow {
	table := []impl.TableRow{}
	for i := range n {
		table = append(table, impl.TableRow{Far: 20 + 7*i + i*i, Bonus: 10 + 3*i*i})
	}
	return table
}

// withRow returns the table of tableOfLength in which one row is changed.
func withRow(n int, at int, change func(r *impl.TableRow)) []impl.TableRow {
	table := tableOfLength(n)
	change(&table[at])
	return table
}

// scatteredTable returns a table with n rows, each by 1..far kilometers and 0..bonus hundredths more than the one before.
func scatteredTable(seed int, n int, far int, bonus int) []impl.TableRow {
	raw := numbers(seed, 2*n, 1000)
	table := []impl.TableRow{}
	row := impl.TableRow{Far: raw[0]*far/1000 - 1}
	for i := range n {
		row.Far += 1 + raw[2*i]*far/1000
		row.Bonus += raw[2*i+1] * (bonus + 1) / 1000
		table = append(table, row)
	}
	return table
}

// ordinaryTable has bonuses for 0..100 kilometers.
func ordinaryTable() []impl.TableRow {
	return tableOf([2]int{0, 100}, [2]int{10, 150}, [2]int{100, 300})
}

// goodTables returns tables of each length: ordinary ones, at the limits, flat, steep, near and far ones.
func goodTables() [][]impl.TableRow {
	good := [][]impl.TableRow{
		ordinaryTable(), tableOf([2]int{0, 0}, [2]int{1500, 600}), tableOf([2]int{0, 600}, [2]int{1500, 600}), tableOf([2]int{0, 0}, [2]int{1500, 0}),
		tableOf([2]int{0, 0}, [2]int{1, 600}), tableOf([2]int{1499, 0}, [2]int{1500, 600}), tableOf([2]int{1499, 0}, [2]int{1500, 0}), tableOf([2]int{0, 0}, [2]int{1, 0}),
		tableOf([2]int{0, 7}, [2]int{1500, 8}), tableOf([2]int{700, 5}, [2]int{707, 8}, [2]int{709, 8}, [2]int{800, 8}, [2]int{801, 599}),
		tableOf([2]int{50, 40}, [2]int{60, 40}, [2]int{70, 40}), tableOf([2]int{3, 0}, [2]int{4, 0}, [2]int{5, 1}),
	}
	for n := 2; n <= impl.MaxTable; n++ {
		good = append(good, tableOfLength(n), scatteredTable(n, n, 180, 70), scatteredTable(n+20, n, 12, 70), scatteredTable(n+40, n, 160, 4))
	}
	return good
}

// badTables returns lists that are no tables, each for one reason.
func badTables() [][]impl.TableRow {
	bad := [][]impl.TableRow{
		nil, {}, tableOfLength(1), ordinaryTable()[:1], tableOfLength(9), tableOf([2]int{0, 0}), make([]impl.TableRow, 2), make([]impl.TableRow, 3000),
		tableOf([2]int{0, 1}, [2]int{1, 2}, [2]int{2, 3}, [2]int{3, 4}, [2]int{4, 5}, [2]int{5, 6}, [2]int{6, 7}, [2]int{7, 8}, [2]int{8, 9}),
	}
	for _, n := range []int{2, 3, 8} {
		for i := 1; i < n; i++ {
			before := tableOfLength(n)[i-1]
			bad = append(bad, withRow(n, i, func(r *impl.TableRow) { r.Far = before.Far }), withRow(n, i, func(r *impl.TableRow) { r.Far = before.Far - 1 }))
			bad = append(bad, withRow(n, i, func(r *impl.TableRow) { r.Bonus = before.Bonus - 1 }), withRow(n, i, func(r *impl.TableRow) { *r = before }))
		}
	}
	for _, n := range beyond(0, 1500) {
		bad = append(bad, tableOf([2]int{n, 5}, [2]int{700, 6}), tableOf([2]int{700, 5}, [2]int{n, 6}), tableOf([2]int{0, 5}, [2]int{n, 6}, [2]int{1500, 6}))
	}
	for _, n := range beyond(0, 600) {
		bad = append(bad, tableOf([2]int{5, n}, [2]int{700, 600}), tableOf([2]int{5, 0}, [2]int{700, n}), tableOf([2]int{0, 0}, [2]int{5, n}, [2]int{1500, 600}))
	}
	return bad
}

func swingOf(station int, far int, width int, term int) impl.Swing {
	return impl.Swing{Station: station, Far: far, Width: width, Term: term}
}

// swingsOf returns Swings with the Stations 4, 8, 12 .. and a Far, a Width and a Term each.
func swingsOf(rows ...[3]int) []impl.Swing {
	list := []impl.Swing{}
	for i, r := range rows {
		list = append(list, swingOf(4*i+4, r[0], r[1], r[2]))
	}
	return list
}

// swingsWith returns Swings at 0 kilometers with a Width of 1000 and some Terms; in the table flatTable, their magnitudes are the Terms plus 300.
func swingsWith(terms ...int) []impl.Swing {
	rows := [][3]int{}
	for _, term := range terms {
		rows = append(rows, [3]int{0, 1000, term})
	}
	return swingsOf(rows...)
}

// flatTable has the bonus 0 for 0..1000 kilometers.
func flatTable() []impl.TableRow {
	return tableOf([2]int{0, 0}, [2]int{1000, 0})
}

// ordinarySwings returns Swings of which, in ordinaryTable, all but the second and the last one have a magnitude: 448, 350, 539 and 384.
func ordinarySwings() []impl.Swing {
	return swingsOf([3]int{5, 2500, 12}, [3]int{101, 70, 40}, [3]int{10, 100, 0}, [3]int{100, 350, 17}, [3]int{55, 60, 4}, [3]int{1500, 1, -50})
}

// scatteredSwings returns n Swings at 0..far kilometers, with Widths of each number of digits.
func scatteredSwings(seed int, n int, far int) []impl.Swing {
	raw := numbers(seed, 5*n, 1000)
	list := []impl.Swing{}
	for i := range n {
		r := raw[5*i : 5*i+5]
		width := 1 + r[1]
		for range r[2] / 250 {
			width *= 10
		}
		list = append(list, swingOf(9*i+1+seed%9, r[0]*(far+1)/1000, min(width, 1000000), r[3]*101/1000-50))
	}
	return list
}

func goodSwings() []impl.Swing {
	return []impl.Swing{
		swingOf(12, 30, 2500, 7), swingOf(1, 30, 2500, 7), swingOf(99, 30, 2500, 7), swingOf(12, 0, 2500, 7), swingOf(12, 1500, 2500, 7),
		swingOf(12, 30, 1, 7), swingOf(12, 30, 1000000, 7), swingOf(12, 30, 2500, -50), swingOf(12, 30, 2500, 50), swingOf(12, 30, 2500, 0),
		swingOf(1, 0, 1, -50), swingOf(99, 1500, 1000000, 50),
	}
}

// badSwings returns Swings that are not valid, each for one reason.
func badSwings() []impl.Swing {
	bad := []impl.Swing{{}}
	for _, n := range beyond(1, 99) {
		bad = append(bad, swingOf(n, 30, 2500, 7))
	}
	for _, n := range beyond(0, 1500) {
		bad = append(bad, swingOf(12, n, 2500, 7))
	}
	for _, n := range beyond(1, 1000000) {
		bad = append(bad, swingOf(12, 30, n, 7))
	}
	for _, n := range beyond(-50, 50) {
		bad = append(bad, swingOf(12, 30, 2500, n))
	}
	return bad
}

func goodSwingLists() [][]impl.Swing {
	good := [][]impl.Swing{nil, {}, ordinarySwings(), swingsWith(-50, 50), swingsWith(1, 2, 3, 4, 5, 6, 7, 8, 9, 10)}
	for _, s := range goodSwings() {
		good = append(good, []impl.Swing{s})
	}
	for seed := range 60 {
		good = append(good, scatteredSwings(seed, 1+seed%impl.MaxSwings, 110), scatteredSwings(seed+100, impl.MaxSwings-seed%4, 1500), scatteredSwings(seed+200, impl.MaxSwings-seed%2, 30))
	}
	return good
}

// badSwingLists returns lists that are no Swings, each for one reason.
func badSwingLists() [][]impl.Swing {
	bad := [][]impl.Swing{swingsWith(1, 2, 3, 4, 5, 6, 7, 8, 9, 10, 11), swingsWith(make([]int, 11)...), swingsWith(make([]int, 24)...), make([]impl.Swing, 3000)}
	for _, s := range badSwings() {
		bad = append(bad, []impl.Swing{s}, []impl.Swing{swingOf(1, 30, 2500, 7), s}, []impl.Swing{s, swingOf(99, 30, 2500, 7)})
	}
	for _, stations := range [][]int{{5, 5}, {5, 4}, {1, 2, 2}, {1, 1, 2}, {1, 3, 2}, {3, 1, 2}, {99, 1}, {1, 2, 3, 4, 5, 6, 7, 8, 9, 9}, {1, 2, 3, 4, 5, 6, 7, 8, 10, 9}} {
		list := []impl.Swing{}
		for i, station := range stations {
			list = append(list, swingOf(station, 10*i, 2500, 7))
		}
		bad = append(bad, list)
	}
	return bad
}

// bonusBy returns the greatest whole number that is not above the line, and whether there is a line.
func bonusBy(table []impl.TableRow, far int) (int, bool) {
	last := len(table) - 1
	if far > table[last].Far {
		return 0, false
	}
	if far <= table[0].Far {
		return table[0].Bonus, true
	}
	at := last - 1
	for table[at].Far >= far {
		at--
	}
	a, b := table[at], table[at+1]
	bonus := b.Bonus
	for (bonus-a.Bonus)*(b.Far-a.Far) > (far-a.Far)*(b.Bonus-a.Bonus) {
		bonus--
	}
	return bonus, true
}

func sizeBy(width int) int {
	digits := strconv.Itoa(width)
	return 100*(len(digits)-1) + 11*int(digits[0]-'1')
}

// magnitudesBy returns the magnitudes of the Swings that have one, and the indices of these.
func magnitudesBy(table []impl.TableRow, list []impl.Swing) ([]int, []int) {
	magnitudes, indices := []int{}, []int{}
	for i, s := range list {
		if bonus, ok := bonusBy(table, s.Far); ok {
			magnitudes = append(magnitudes, sizeBy(s.Width)+bonus+s.Term)
			indices = append(indices, i)
		}
	}
	return magnitudes, indices
}

// medianBy returns the number below which there are less than a half of all, and not above which there are at least a half.
func medianBy(list []int) int {
	for _, n := range list {
		below, upTo := 0, 0
		for _, other := range list {
			if other < n {
				below++
			}
			if other <= n {
				upTo++
			}
		}
		if 2*below < len(list) && 2*upTo >= len(list) {
			return n
		}
	}
	return 0
}

func wantBonus(t *testing.T, table []impl.TableRow, far int, want int) {
	t.Helper()
	if n, ok := impl.BonusAt(table, far); !ok || n != want {
		t.Errorf("BonusAt(%v, %d) = %d, %v; want %d, true", table, far, n, ok, want)
	}
}

func wantNoBonus(t *testing.T, table []impl.TableRow, far int) {
	t.Helper()
	if n, ok := impl.BonusAt(table, far); ok || n != 0 {
		t.Errorf("BonusAt(%.200v, %d) = %d, %v; want 0, false", table, far, n, ok)
	}
}

func wantSize(t *testing.T, width int, want int) {
	t.Helper()
	if n, ok := impl.SizeOf(width); !ok || n != want {
		t.Errorf("SizeOf(%d) = %d, %v; want %d, true", width, n, ok, want)
	}
}

func wantMagnitude(t *testing.T, table []impl.TableRow, s impl.Swing, want int) {
	t.Helper()
	if n, ok := impl.MagnitudeOf(table, s); !ok || n != want {
		t.Errorf("MagnitudeOf(%v, %v) = %d, %v; want %d, true", table, s, n, ok, want)
	}
}

func wantNoMagnitude(t *testing.T, table []impl.TableRow, s impl.Swing) {
	t.Helper()
	if n, ok := impl.MagnitudeOf(table, s); ok || n != 0 {
		t.Errorf("MagnitudeOf(%.200v, %v) = %d, %v; want 0, false", table, s, n, ok)
	}
}

// wantMedian checks MedianMagnitude and Residuals.
func wantMedian(t *testing.T, table []impl.TableRow, list []impl.Swing, median int, residuals ...int) {
	t.Helper()
	if n, ok := impl.MedianMagnitude(table, list); !ok || n != median {
		t.Errorf("MedianMagnitude(%v, %v) = %d, %v; want %d, true", table, list, n, ok, median)
	}
	got, ok := impl.Residuals(table, list)
	wantNumbers(t, "Residuals", got, ok, residuals)
}

// wantTerms checks NewTerms, of whose result only the Terms may be others.
func wantTerms(t *testing.T, table []impl.TableRow, list []impl.Swing, terms ...int) {
	t.Helper()
	want := slices.Clone(list)
	for i, term := range terms {
		want[i].Term = term
	}
	if got, ok := impl.NewTerms(table, list); !ok || !slices.Equal(got, want) || len(terms) != len(list) {
		t.Errorf("NewTerms(%v, %v) = %v, %v; want %v, true", table, list, got, ok, want)
	}
}

// wantNoMedian checks that MedianMagnitude, Residuals and NewTerms fail.
func wantNoMedian(t *testing.T, table []impl.TableRow, list []impl.Swing) {
	t.Helper()
	if n, ok := impl.MedianMagnitude(table, list); ok || n != 0 {
		t.Errorf("MedianMagnitude(%.200v, %.200v) = %d, %v; want 0, false", table, list, n, ok)
	}
	residuals, ok := impl.Residuals(table, list)
	wantNoNumbers(t, "Residuals", residuals, ok)
	if swings, ok := impl.NewTerms(table, list); ok || len(swings) != 0 {
		t.Errorf("NewTerms(%.200v, %.200v) = %v, %v; want none, false", table, list, swings, ok)
	}
}

func wantWidth(t *testing.T, table []impl.TableRow, far int, magnitude int, want int) {
	t.Helper()
	if n, ok := impl.LeastWidth(table, far, magnitude); !ok || n != want {
		t.Errorf("LeastWidth(%v, %d, %d) = %d, %v; want %d, true", table, far, magnitude, n, ok, want)
	}
}

func wantNoWidth(t *testing.T, table []impl.TableRow, far int, magnitude int) {
	t.Helper()
	if n, ok := impl.LeastWidth(table, far, magnitude); ok || n != 0 {
		t.Errorf("LeastWidth(%.200v, %d, %d) = %d, %v; want 0, false", table, far, magnitude, n, ok)
	}
}

func wantText(t *testing.T, magnitude int, want string) {
	t.Helper()
	if s, ok := impl.MagnitudeText(magnitude); !ok || s != want {
		t.Errorf("MagnitudeText(%d) = %q, %v; want %q, true", magnitude, s, ok, want)
	}
}

func TestAmplitudeLimits(t *testing.T) {
	if impl.MaxTable != 8 || impl.MaxSwings != 10 {
		t.Error("limits", impl.MaxTable, impl.MaxSwings)
	}
}

func TestIsTable(t *testing.T) {
	for _, table := range goodTables() {
		if !impl.IsTable(table) {
			t.Error("a table", table)
		}
	}
	for _, list := range badTables() {
		if impl.IsTable(list) {
			t.Errorf("no table: %.200v", list)
		}
	}
	for n := range 20 {
		if impl.IsTable(tableOfLength(n)) != (n >= 2 && n <= 8) {
			t.Error("a table of", n, "rows", impl.IsTable(tableOfLength(n)))
		}
	}
}

func TestIsTableForEqualAndDescendingNumbers(t *testing.T) {
	for _, c := range []struct {
		far, bonus int
		want       bool
	}{{101, 70, true}, {101, 71, true}, {101, 69, false}, {100, 70, false}, {100, 71, false}, {99, 70, false}, {99, 71, false}, {299, 90, true}, {300, 90, false}, {301, 90, false}, {299, 91, false}, {299, 89, true}} {
		table := tableOf([2]int{100, 70}, [2]int{c.far, c.bonus}, [2]int{300, 90})
		if impl.IsTable(table) != c.want {
			t.Errorf("IsTable(%v) = %v", table, !c.want)
		}
	}
}

func TestAreSwings(t *testing.T) {
	for _, s := range goodSwings() {
		if !impl.AreSwings([]impl.Swing{s}) {
			t.Error("a Swing", s)
		}
	}
	for _, list := range goodSwingLists() {
		if !impl.AreSwings(list) {
			t.Error("Swings", list)
		}
	}
	for _, list := range badSwingLists() {
		if impl.AreSwings(list) {
			t.Errorf("no Swings: %.200v", list)
		}
	}
	for n := range 24 {
		if impl.AreSwings(swingsWith(make([]int, n)...)) != (n <= 10) {
			t.Error(n, "Swings", n > 10)
		}
	}
	// Only the Stations have to differ, and to ascend.
	if !impl.AreSwings([]impl.Swing{swingOf(1, 30, 2500, 7), swingOf(2, 30, 2500, 7), swingOf(99, 0, 1, -50)}) {
		t.Error("Swings with the same numbers")
	}
}

func TestAmplitudeFunctionsFailForInvalidTables(t *testing.T) {
	for _, table := range badTables() {
		for _, far := range []int{0, 5, 25, 700, 1500} {
			wantNoBonus(t, table, far)
			for _, magnitude := range []int{-1000, 0, 10, 2000} {
				wantNoWidth(t, table, far, magnitude)
			}
			wantNoMagnitude(t, table, swingOf(12, far, 2500, 7))
			wantNoMedian(t, table, swingsOf([3]int{far, 2500, 7}))
		}
		for _, list := range goodSwingLists()[:20] {
			wantNoMedian(t, table, list)
		}
	}
}

func TestAmplitudeFunctionsFailForInvalidSwings(t *testing.T) {
	for _, table := range [][]impl.TableRow{ordinaryTable(), tableOf([2]int{0, 0}, [2]int{1500, 600}), tableOfLength(8)} {
		for _, s := range badSwings() {
			wantNoMagnitude(t, table, s)
		}
		for _, list := range badSwingLists() {
			wantNoMedian(t, table, list)
		}
	}
}

func TestAmplitudeFunctionsFailForInvalidNumbers(t *testing.T) {
	for _, table := range goodTables() {
		for _, far := range beyond(0, 1500) {
			wantNoBonus(t, table, far)
			for _, magnitude := range []int{-1000, 0, 600, 2000} {
				wantNoWidth(t, table, far, magnitude)
			}
		}
		for _, magnitude := range beyond(-1000, 2000) {
			wantNoWidth(t, table, table[0].Far, magnitude)
			wantNoWidth(t, table, table[1].Far, magnitude)
		}
	}
	for _, width := range append(beyond(1, 1000000), -5, 10000000) {
		if n, ok := impl.SizeOf(width); ok || n != 0 {
			t.Errorf("SizeOf(%d) = %d, %v; want 0, false", width, n, ok)
		}
	}
	for _, magnitude := range append(beyond(-1000, 2000), -10000, 20000) {
		if s, ok := impl.MagnitudeText(magnitude); ok || s != "" {
			t.Errorf("MagnitudeText(%d) = %q, %v; want nothing, false", magnitude, s, ok)
		}
	}
}

func TestBonusAt(t *testing.T) {
	for far, want := range map[int]int{0: 100, 1: 105, 5: 125, 9: 145, 10: 150, 11: 151, 12: 153, 13: 155, 16: 160, 55: 225, 99: 298, 100: 300} {
		wantBonus(t, ordinaryTable(), far, want)
	}
	for _, far := range []int{101, 102, 500, 1499, 1500} {
		wantNoBonus(t, ordinaryTable(), far)
	}
	table := tableOf([2]int{40, 30}, [2]int{47, 33}, [2]int{50, 33}, [2]int{51, 600})
	for far, want := range map[int]int{0: 30, 1: 30, 39: 30, 40: 30, 41: 30, 42: 30, 43: 31, 44: 31, 45: 32, 46: 32, 47: 33, 48: 33, 49: 33, 50: 33, 51: 600} {
		wantBonus(t, table, far, want)
	}
	wantNoBonus(t, table, 52)
}

func TestBonusAtTheLimits(t *testing.T) {
	for _, table := range [][]impl.TableRow{tableOf([2]int{0, 0}, [2]int{1500, 600}), tableOf([2]int{0, 0}, [2]int{750, 300}, [2]int{1500, 600})} {
		for far := range 1501 {
			wantBonus(t, table, far, far*2/5)
		}
	}
	wantBonus(t, tableOf([2]int{1499, 7}, [2]int{1500, 600}), 0, 7)
	wantBonus(t, tableOf([2]int{1499, 7}, [2]int{1500, 600}), 1499, 7)
	wantBonus(t, tableOf([2]int{1499, 7}, [2]int{1500, 600}), 1500, 600)
	wantBonus(t, tableOf([2]int{0, 7}, [2]int{1, 600}), 0, 7)
	wantBonus(t, tableOf([2]int{0, 7}, [2]int{1, 600}), 1, 600)
	wantNoBonus(t, tableOf([2]int{0, 7}, [2]int{1, 600}), 2)
	wantNoBonus(t, tableOf([2]int{0, 7}, [2]int{1499, 600}), 1500)
	// One hundredth comes with the last kilometer only.
	wantBonus(t, tableOf([2]int{0, 7}, [2]int{1500, 8}), 1499, 7)
	wantBonus(t, tableOf([2]int{0, 7}, [2]int{1500, 8}), 1500, 8)
}

func TestBonusAtEachDistance(t *testing.T) {
	rounded, whole := 0, 0
	for _, table := range goodTables() {
		for _, r := range table {
			wantBonus(t, table, r.Far, r.Bonus)
		}
		for far := range 1501 {
			want, ok := bonusBy(table, far)
			if !ok {
				wantNoBonus(t, table, far)
				continue
			}
			wantBonus(t, table, far, want)
			for i, b := range table[1:] {
				if a := table[i]; a.Far < far && far < b.Far && a.Bonus < b.Bonus {
					if (far-a.Far)*(b.Bonus-a.Bonus)%(b.Far-a.Far) == 0 {
						whole++
					} else {
						rounded++
					}
				}
			}
		}
	}
	if rounded < 1000 || whole < 300 {
		t.Error("too few lines that are whole or rounded", whole, rounded)
	}
}

func TestSizeOf(t *testing.T) {
	for width, want := range map[int]int{
		1: 0, 2: 11, 5: 44, 8: 77, 9: 88, 10: 100, 11: 100, 19: 100, 20: 111, 89: 177, 90: 188, 99: 188, 100: 200, 101: 200, 199: 200, 200: 211, 999: 288,
		1000: 300, 2500: 311, 9999: 388, 10000: 400, 99999: 488, 100000: 500, 199999: 500, 899999: 577, 900000: 588, 999999: 588, 1000000: 600,
	} {
		wantSize(t, width, want)
	}
	before := -1
	for width := 1; width <= 1000000; width++ {
		if n, ok := impl.SizeOf(width); !ok || n != sizeBy(width) || n < before {
			t.Fatalf("SizeOf(%d) = %d, %v; want %d, true, after %d", width, n, ok, sizeBy(width), before)
		}
		before = sizeBy(width)
	}
}

func TestMagnitudeOf(t *testing.T) {
	for i, want := range map[int]int{0: 448, 2: 350, 3: 539, 4: 384} {
		wantMagnitude(t, ordinaryTable(), ordinarySwings()[i], want)
	}
	wantNoMagnitude(t, ordinaryTable(), ordinarySwings()[1])
	wantNoMagnitude(t, ordinaryTable(), ordinarySwings()[5])
	wantMagnitude(t, ordinaryTable(), swingOf(1, 100, 9, 0), 388)
	wantNoMagnitude(t, ordinaryTable(), swingOf(1, 101, 9, 0))
	for term := -50; term <= 50; term++ {
		wantMagnitude(t, ordinaryTable(), swingOf(7, 0, 30, term), 222+term)
	}
	// The least and the greatest magnitude of all.
	wantMagnitude(t, tableOf([2]int{0, 0}, [2]int{1500, 600}), swingOf(1, 0, 1, -50), -50)
	wantMagnitude(t, tableOf([2]int{0, 0}, [2]int{1500, 600}), swingOf(99, 1500, 1000000, 50), 1250)
}

func TestMagnitudeOfEachSwing(t *testing.T) {
	for _, table := range goodTables() {
		for _, list := range goodSwingLists() {
			for _, s := range list {
				if bonus, ok := bonusBy(table, s.Far); ok {
					wantMagnitude(t, table, s, sizeBy(s.Width)+bonus+s.Term)
				} else {
					wantNoMagnitude(t, table, s)
				}
			}
		}
	}
}

func TestMedianMagnitude(t *testing.T) {
	list := ordinarySwings()
	wantMedian(t, ordinaryTable(), list, 384, 64, -34, 155, 0)
	wantMedian(t, ordinaryTable(), list[:4], 448, 0, -98, 91)
	wantMedian(t, ordinaryTable(), list[:3], 350, 98, 0)
	wantMedian(t, ordinaryTable(), list[:1], 448, 0)
	wantMedian(t, ordinaryTable(), list[1:3], 350, 0)
	wantMedian(t, ordinaryTable(), list[4:], 384, 0)
}

func TestMedianMagnitudeOfSomeNumbers(t *testing.T) {
	wantMedian(t, flatTable(), swingsWith(7), 307, 0)
	wantMedian(t, flatTable(), swingsWith(7, 7), 307, 0, 0)
	wantMedian(t, flatTable(), swingsWith(9, 4), 304, 5, 0)
	wantMedian(t, flatTable(), swingsWith(4, 9), 304, 0, 5)
	wantMedian(t, flatTable(), swingsWith(50, -50), 250, 100, 0)
	for _, terms := range [][]int{{1, 2, 3}, {1, 3, 2}, {2, 1, 3}, {2, 3, 1}, {3, 1, 2}, {3, 2, 1}} {
		wantMedian(t, flatTable(), swingsWith(terms...), 302, terms[0]-2, terms[1]-2, terms[2]-2)
	}
	wantMedian(t, flatTable(), swingsWith(8, -9, 30, 2), 302, 6, -11, 28, 0)
	wantMedian(t, flatTable(), swingsWith(5, 5, 9, 5, 1), 305, 0, 0, 4, 0, -4)
	wantMedian(t, flatTable(), swingsWith(10, 9, 8, 7, 6, 5, 4, 3, 2, 1), 305, 5, 4, 3, 2, 1, 0, -1, -2, -3, -4)
	wantMedian(t, flatTable(), swingsWith(9, 8, 7, 6, 5, 4, 3, 2, 1), 305, 4, 3, 2, 1, 0, -1, -2, -3, -4)
}

func TestMedianMagnitudeWithoutMagnitudes(t *testing.T) {
	for _, table := range goodTables() {
		wantNoMedian(t, table, nil)
		wantNoMedian(t, table, []impl.Swing{})
	}
	behind := swingsOf([3]int{101, 10, 3}, [3]int{102, 1000, 4}, [3]int{1500, 1000000, 5})
	for n := range 4 {
		wantNoMedian(t, ordinaryTable(), behind[:n])
	}
	// The last row just reaches the first one, and then the second one.
	wantMedian(t, tableOf([2]int{0, 0}, [2]int{101, 101}), behind, 204, 0)
	wantMedian(t, tableOf([2]int{0, 0}, [2]int{102, 102}), behind, 204, 0, 202)
	wantTerms(t, tableOf([2]int{0, 0}, [2]int{101, 101}), behind, 3, 4, 5)
	wantTerms(t, tableOf([2]int{0, 0}, [2]int{102, 102}), behind, 3, -50, 5)
}

func TestMedianMagnitudeOfEachList(t *testing.T) {
	odd, even, all, some, none := 0, 0, 0, 0, 0
	for _, table := range goodTables() {
		for _, list := range goodSwingLists() {
			magnitudes, indices := magnitudesBy(table, list)
			if len(magnitudes) == 0 {
				none++
				wantNoMedian(t, table, list)
				continue
			}
			median := medianBy(magnitudes)
			residuals, terms := []int{}, []int{}
			for _, s := range list {
				terms = append(terms, s.Term)
			}
			for i, m := range magnitudes {
				residuals = append(residuals, m-median)
				terms[indices[i]] = min(50, max(-50, terms[indices[i]]-m+median))
			}
			wantMedian(t, table, list, median, residuals...)
			wantTerms(t, table, list, terms...)
			odd, even = odd+len(magnitudes)%2, even+1-len(magnitudes)%2
			if len(magnitudes) == len(list) {
				all++
			} else {
				some++
			}
		}
	}
	if min(odd, even, all, some, none) < 500 {
		t.Error("too few lists of a kind", odd, even, all, some, none)
	}
}

func TestNewTerms(t *testing.T) {
	wantTerms(t, ordinaryTable(), ordinarySwings(), -50, 40, 34, -50, 4, -50)
	wantTerms(t, ordinaryTable(), ordinarySwings()[:3], -50, 40, 0)
	wantTerms(t, ordinaryTable(), ordinarySwings()[1:3], 40, 0)
	wantTerms(t, ordinaryTable(), ordinarySwings()[4:], 4, -50)
	// With Widths that are the same, all Terms become the median.
	wantTerms(t, flatTable(), swingsWith(8, -9, 30, 2), 2, 2, 2, 2)
	wantTerms(t, flatTable(), swingsWith(50, -50), -50, -50)
	wantTerms(t, flatTable(), swingsWith(-50, 50, 50), 50, 50, 50)
	wantTerms(t, flatTable(), swingsWith(7), 7)
}

func TestNewTermsAtTheLimits(t *testing.T) {
	// The bonus of a distance is the distance itself, and the Swing in the middle has the median.
	table := tableOf([2]int{0, 0}, [2]int{600, 600})
	for d, want := range map[int]int{0: 0, 1: 1, 30: 30, 48: 48, 49: 49, 50: 50, 51: 50, 52: 50, 99: 50, 100: 50, 101: 50, 300: 50} {
		for _, term := range []int{-50, -49, -30, -1, 0, 1, 30, 49, 50} {
			if d+term < 0 {
				continue
			}
			list := swingsOf([3]int{300 - d, 1000, -term}, [3]int{300, 1000, 0}, [3]int{300 + d, 1000, term})
			wantMedian(t, table, list, 600, -d-term, 0, d+term)
			wantTerms(t, table, list, want, 0, -want)
		}
	}
	// Those without a magnitude keep the Terms at the limits.
	list := swingsOf([3]int{601, 1, -50}, [3]int{250, 1000, 0}, [3]int{602, 1000000, 50}, [3]int{300, 1000, 0}, [3]int{351, 1000, 50}, [3]int{1500, 10, 49})
	wantMedian(t, table, list, 600, -50, 0, 101)
	wantTerms(t, table, list, -50, 50, 50, 0, -50, 49)
}

func TestLeastWidth(t *testing.T) {
	for magnitude, want := range map[int]int{-1000: 1, 0: 1, 125: 1, 126: 2, 136: 2, 137: 3, 213: 9, 214: 10, 225: 10, 226: 20, 436: 2000, 437: 3000, 713: 900000, 714: 1000000, 725: 1000000} {
		wantWidth(t, ordinaryTable(), 5, magnitude, want)
	}
	wantWidth(t, ordinaryTable(), 100, 300, 1)
	wantWidth(t, ordinaryTable(), 100, 301, 2)
	for _, magnitude := range []int{-1000, 0, 300, 400, 2000} {
		wantNoWidth(t, ordinaryTable(), 101, magnitude)
		wantNoWidth(t, ordinaryTable(), 1500, magnitude)
	}
	for _, magnitude := range []int{726, 727, 1000, 1999, 2000} {
		wantNoWidth(t, ordinaryTable(), 5, magnitude)
	}
}

func TestLeastWidthAtTheLimits(t *testing.T) {
	wide := tableOf([2]int{0, 0}, [2]int{1500, 600})
	// Every Width has the magnitude.
	wantWidth(t, wide, 0, -1000, 1)
	wantWidth(t, wide, 0, -1, 1)
	wantWidth(t, wide, 0, 0, 1)
	wantWidth(t, wide, 1500, -1000, 1)
	wantWidth(t, wide, 1500, 600, 1)
	wantWidth(t, wide, 1500, 601, 2)
	// Only the greatest Width has it.
	wantWidth(t, wide, 0, 588, 900000)
	for magnitude := 589; magnitude <= 600; magnitude++ {
		wantWidth(t, wide, 0, magnitude, 1000000)
		wantWidth(t, wide, 1500, 600+magnitude, 1000000)
	}
	// No Width has it.
	for _, magnitude := range []int{601, 602, 1200, 2000} {
		wantNoWidth(t, wide, 0, magnitude)
	}
	for _, magnitude := range []int{1201, 1999, 2000} {
		wantNoWidth(t, wide, 1500, magnitude)
	}
}

// firstWidths returns the Widths whose size is greater than that of each smaller one, in ascending order.
func firstWidths() []int {
	first, before := []int{}, -1
	for width := 1; width <= 1000000; width++ {
		if size := sizeBy(width); size > before {
			first, before = append(first, width), size
		}
	}
	return first
}

// wantLeast checks that a Width has a magnitude, and the one before it, if there is one, has not.
func wantLeast(t *testing.T, table []impl.TableRow, far int, magnitude int, width int) {
	t.Helper()
	has, ok := impl.MagnitudeOf(table, swingOf(1, far, width, 0))
	if !ok || has < magnitude {
		t.Errorf("MagnitudeOf at %d with %d = %d, %v; want at least %d, true", far, width, has, ok, magnitude)
	}
	if width == 1 {
		return
	}
	has, ok = impl.MagnitudeOf(table, swingOf(1, far, width-1, 0))
	if !ok || has >= magnitude {
		t.Errorf("MagnitudeOf at %d with %d = %d, %v; want less than %d, true", far, width-1, has, ok, magnitude)
	}
}

// Promise 11.
func TestTheLeastWidthHasTheMagnitudeAndOneLessHasNot(t *testing.T) {
	widths := firstWidths()
	found, most, none := 0, 0, 0
	for i, table := range goodTables() {
		for far := 0; far <= 1500; far += 1 + i%3*7 + far/110 {
			for magnitude := -1000 + (i+far)%13; magnitude <= 2000; magnitude += 13 {
				bonus, ok := bonusBy(table, far)
				at := slices.IndexFunc(widths, func(width int) bool { return ok && sizeBy(width)+bonus >= magnitude })
				if at < 0 {
					wantNoWidth(t, table, far, magnitude)
					none++
					continue
				}
				wantWidth(t, table, far, magnitude, widths[at])
				wantLeast(t, table, far, magnitude, widths[at])
				found++
				if at > 0 {
					most++
				}
			}
		}
	}
	if min(found-most, most, none) < 10000 {
		t.Error("too few magnitudes of a kind", found, most, none)
	}
}

func TestTheLeastWidthOfEachMagnitude(t *testing.T) {
	for _, far := range []int{0, 1, 40, 1000} {
		for magnitude := -1000; magnitude <= 2000; magnitude++ {
			width, ok := impl.LeastWidth(flatTable(), far, magnitude)
			if ok != (magnitude <= 600) {
				t.Errorf("LeastWidth of %d = %d, %v", magnitude, width, ok)
			} else if ok {
				wantLeast(t, flatTable(), far, magnitude, width)
			}
		}
	}
}

func TestMagnitudeText(t *testing.T) {
	for magnitude, want := range map[int]string{
		0: "M 0.0", 1: "M 0.0", 4: "M 0.0", 5: "M 0.1", 6: "M 0.1", 10: "M 0.1", 14: "M 0.1", 15: "M 0.2", 94: "M 0.9", 95: "M 1.0", 99: "M 1.0", 100: "M 1.0", 104: "M 1.0", 105: "M 1.1",
		-1: "M 0.0", -4: "M 0.0", -5: "M -0.1", -6: "M -0.1", -10: "M -0.1", -14: "M -0.1", -15: "M -0.2", -94: "M -0.9", -95: "M -1.0", -100: "M -1.0", -104: "M -1.0", -105: "M -1.1",
		125: "M 1.3", 448: "M 4.5", 994: "M 9.9", 995: "M 10.0", 1000: "M 10.0", 1944: "M 19.4", 1945: "M 19.5", 1994: "M 19.9", 1995: "M 20.0", 2000: "M 20.0",
		-125: "M -1.3", -448: "M -4.5", -994: "M -9.9", -995: "M -10.0", -999: "M -10.0", -1000: "M -10.0",
	} {
		wantText(t, magnitude, want)
	}
}

func TestMagnitudeTextOfEachMagnitude(t *testing.T) {
	for tenths := -100; tenths <= 200; tenths++ {
		// These are nearer than 5 hundredths, or in the middle and farther from 0 than the other side.
		from, to := 10*tenths-4, 10*tenths+4
		if tenths > 0 {
			from--
		}
		if tenths < 0 {
			to++
		}
		for magnitude := max(-1000, from); magnitude <= min(2000, to); magnitude++ {
			wantText(t, magnitude, "M "+strconv.FormatFloat(float64(tenths)/10, 'f', 1, 64))
		}
	}
}

// withRowsBehind returns table with room behind its length, and the whole of it.
func withRowsBehind(table []impl.TableRow) ([]impl.TableRow, []impl.TableRow) {
	backing := append(slices.Clone(table), slices.Repeat([]impl.TableRow{{Far: 1500, Bonus: 600}}, 12)...)
	return backing[:len(table)], backing
}

// withSwingsBehind returns list with room behind its length, and the whole of it.
func withSwingsBehind(list []impl.Swing) ([]impl.Swing, []impl.Swing) {
	backing := append(slices.Clone(list), slices.Repeat([]impl.Swing{swingOf(99, 0, 1000000, 50)}, 15)...)
	return backing[:len(list)], backing
}

// callAmplitudeFunctions calls each function of the chapter with lists, and spoils what they return.
func callAmplitudeFunctions(table []impl.TableRow, list []impl.Swing) {
	impl.IsTable(table)
	impl.AreSwings(list)
	impl.MedianMagnitude(table, list)
	for _, far := range []int{-1, 0, 5, 55, 1500} {
		impl.BonusAt(table, far)
		impl.LeastWidth(table, far, 300)
	}
	for _, s := range list {
		impl.MagnitudeOf(table, s)
	}
	residuals, _ := impl.Residuals(table, list)
	residuals = residuals[:cap(residuals)]
	for i := range residuals {
		residuals[i] = -999
	}
	swings, _ := impl.NewTerms(table, list)
	swings = swings[:cap(swings)]
	for i := range swings {
		swings[i] = swingOf(-9, -9, -9, -9)
	}
}

func TestAmplitudeFunctionsKeepTheirArguments(t *testing.T) {
	for _, table := range slices.Concat(goodTables(), badTables()[:15]) {
		rows, behindRows := withRowsBehind(table)
		wantRows := slices.Clone(behindRows)
		for _, list := range slices.Concat(goodSwingLists()[:40], badSwingLists()[:10]) {
			swings, behindSwings := withSwingsBehind(list)
			wantSwings := slices.Clone(behindSwings)
			callAmplitudeFunctions(rows, swings)
			if !slices.Equal(behindRows, wantRows) || !slices.Equal(behindSwings, wantSwings) {
				t.Fatalf("an argument changed: %.300v, %.300v; want %.300v, %.300v", behindRows, behindSwings, wantRows, wantSwings)
			}
		}
	}
}

func TestAmplitudeFunctionsReadNothingBehindTheLength(t *testing.T) {
	for _, n := range []int{2, 3, 7} {
		table := tableOfLength(8)[:n]
		last := table[n-1]
		wantBonus(t, table, last.Far, last.Bonus)
		wantNoBonus(t, table, last.Far+1)
		wantNoWidth(t, table, last.Far+1, 0)
	}
	whole := swingsWith(4, 8, 1, 30, -7, 50, 50, 50, 50, 50)
	residuals := []int{0, 4, -3, 26, -11}
	for n := 1; n <= 5; n++ {
		wantMedian(t, flatTable(), whole[:n], 304, residuals[:n]...)
	}
	wantNoMedian(t, flatTable(), whole[:0])
	if got, ok := impl.NewTerms(flatTable(), whole[:3]); !ok || !slices.Equal(got, swingsWith(4, 4, 4)) {
		t.Errorf("NewTerms = %v, %v", got, ok)
	}
}

func TestAmplitudeResultsAreOfTheirOwn(t *testing.T) {
	for range 3 {
		wantMedian(t, ordinaryTable(), ordinarySwings(), 384, 64, -34, 155, 0)
		wantTerms(t, ordinaryTable(), ordinarySwings(), -50, 40, 34, -50, 4, -50)
		callAmplitudeFunctions(ordinaryTable(), ordinarySwings())
		list := swingsWith(7, 7)
		got, _ := impl.NewTerms(flatTable(), list)
		got[0].Term, list[1].Term = -1, -2
		if list[0].Term != 7 || got[1].Term != 7 {
			t.Error("a result shares memory with its argument", list, got)
		}
	}
}
