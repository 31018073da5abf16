package tests

import (
	"fmt"
	"math"
	"math/big"
	"runtime"
	"slices"
	"sync"
	"testing"
	"time"

	"loop.example/sigmaproofs/impl"
)

// tableOf is a table of a size whose entries are 1 where a rule says so.
func tableOf(rows int, asks int, taken func(row int, ask int) bool) [][]int {
	var table [][]int
	for i := range rows {
		row := make([]int, asks)
		for j := range row {
			if taken(i, j) {
				row[j] = 1
			}
		}
		table = append(table, row)
	}
	return table
}

func allOnes(rows int, asks int) [][]int {
	return tableOf(rows, asks, func(int, int) bool { return true })
}

func allZeros(rows int, asks int) [][]int {
	return tableOf(rows, asks, func(int, int) bool { return false })
}

// mixedTable is a table that looks like one of chance, but is always the same, in which about so many of eight entries are 1.
func mixedTable(rows int, asks int, ofEight int) [][]int {
	state := uint64(rows*1000 + asks*10 + ofEight)
	return tableOf(rows, asks, func(int, int) bool {
		state = state*6364136223846793005 + 1442695040888963407
		return int(state>>61) < ofEight
	})
}

// tablesOfSize are tables of one size: without any entry that is 1, with all, with none, one, two and all in a row, and mixed ones.
func tablesOfSize(rows int, asks int) [][][]int {
	list := [][][]int{allZeros(rows, asks), allOnes(rows, asks)}
	for _, taken := range []func(row int, ask int) bool{
		func(row, ask int) bool { return row == 0 && ask == 0 },
		func(row, ask int) bool { return row == rows-1 && ask == asks-1 },
		func(row, ask int) bool { return row != rows-1 || ask != asks-1 },
		func(row, ask int) bool { return ask == row%asks },
		func(row, ask int) bool { return ask == 0 || ask == asks-1 },
		func(row, ask int) bool { return row == rows-1 && ask >= asks-2 },
		func(row, ask int) bool { return ask == row%asks || row == rows-1 && ask >= asks-2 },
		func(row, ask int) bool { return row == 0 || ask == asks/2 },
		func(row, ask int) bool { return ask < row%(asks+1) },
		func(row, ask int) bool { return asks-1-ask < (rows-1-row)%(asks+1) },
		func(row, ask int) bool { return (row+ask)%2 == 1 },
	} {
		list = append(list, tableOf(rows, asks, taken))
	}
	for ofEight := 1; ofEight < 8; ofEight++ {
		list = append(list, mixedTable(rows, asks, ofEight))
	}
	return list
}

// sizes calls a function for each size of a table.
func sizes(do func(rows int, asks int)) {
	for rows := 1; rows <= 12; rows++ {
		for asks := 1; asks <= 8; asks++ {
			do(rows, asks)
		}
	}
}

// smallTables are all tables there are of so many entries at most.
func smallTables(most int) [][][]int {
	var list [][][]int
	sizes(func(rows, asks int) {
		if rows*asks > most {
			return
		}
		for bits := range 1 << (rows * asks) {
			list = append(list, tableOf(rows, asks, func(row, ask int) bool { return bits>>(row*asks+ask)&1 == 1 }))
		}
	})
	return list
}

// allTables are tables of all sizes, and all of the small ones.
func allTables() [][][]int {
	list := smallTables(9)
	sizes(func(rows, asks int) { list = append(list, tablesOfSize(rows, asks)...) })
	return list
}

// entriesWrong are numbers that are no entries of a table.
var entriesWrong = []int{-1, 2, -2, 3, 10, 256, 257, 1 << 32, 1<<32 + 1, math.MinInt, math.MinInt + 1, math.MaxInt}

// tablesWrong are rows that are no table.
func tablesWrong() [][][]int {
	list := [][][]int{
		nil, {}, {nil}, {{}}, {nil, nil}, {{}, {}}, {{1}, {}}, {{}, {1}}, {{1}, nil}, {nil, {1}},
		{{1, 0}, {1}, {0, 1, 1}}, {{1, 1, 0, 1}, {1, 1, 0, 1, 1, 1, 1, 1, 1}},
		make([][]int, 12), make([][]int, 13), {{-1}}, {{2}}, {{2, -1}}, {{-1, 1, 1}},
	}
	for _, asks := range []int{1, 2, 7, 8, 9, 10, 100} {
		for _, rows := range []int{1, 2, 11, 12, 13, 14, 24, 1000} {
			if rows > 12 || asks > 8 {
				list = append(list, allZeros(rows, asks), allOnes(rows, asks), mixedTable(rows, asks, 2))
			}
		}
	}
	sizes(func(rows, asks int) {
		for i := range rows {
			list = append(list, wrongAt(rows, asks, i)...)
		}
	})
	return list
}

// wrongAt are tables of a size of which one row is spoiled: by its length, if there are others, or by one entry.
func wrongAt(rows int, asks int, i int) [][][]int {
	var list [][][]int
	for _, length := range []int{0, asks - 1, asks + 1, 8, 9} {
		if rows > 1 && length != asks {
			table := allOnes(rows, asks)
			table[i] = slices.Repeat([]int{1}, length)
			list = append(list, table)
		}
	}
	for j := range asks {
		for n, wrong := range entriesWrong {
			table := mixedTable(rows, asks, n%8)
			table[i][j] = wrong
			list = append(list, table)
		}
	}
	return list
}

func takenKnown(table [][]int) int {
	taken := 0
	for _, row := range table {
		for _, entry := range row {
			if entry == 1 {
				taken++
			}
		}
	}
	return taken
}

// twiceKnown holds each entry against each one behind it.
func twiceKnown(table [][]int) (int, int, int, bool) {
	for k, row := range table {
		for i := range row {
			for j := i + 1; j < len(row); j++ {
				if row[i] == 1 && row[j] == 1 {
					return k, i, j, true
				}
			}
		}
	}
	return -1, -1, -1, false
}

func pairsKnown(table [][]int) int {
	pairs := 0
	for _, row := range table {
		for i := range row {
			for j := range row {
				if i != j && row[i] == 1 && row[j] == 1 {
					pairs++
				}
			}
		}
	}
	return pairs
}

// othersTaken is how many entries of a row but one are 1.
func othersTaken(row []int, ask int) int {
	others := 0
	for j, entry := range row {
		if j != ask && entry == 1 {
			others++
		}
	}
	return others
}

// againKnown goes through all beginnings and first questions: if it goes on, each further question ends it for the others that are taken, which takes as many as all questions, divided by these.
func againKnown(table [][]int) *big.Rat {
	sum := new(big.Rat)
	for _, row := range table {
		for ask, entry := range row {
			sum.Add(sum, big.NewRat(1, 1))
			if others := othersTaken(row, ask); entry == 1 && others > 0 {
				sum.Add(sum, big.NewRat(int64(len(row)), int64(others)))
			}
		}
	}
	return sum.Quo(sum, big.NewRat(int64(len(table)*len(table[0])), 1))
}

func chanceKnown(table [][]int, times int) *big.Rat {
	once, chance := big.NewRat(int64(takenKnown(table)), int64(len(table)*len(table[0]))), big.NewRat(1, 1)
	for range times {
		chance.Mul(chance, once)
	}
	return chance
}

// timesKnown finds both entries of each product by its place.
func timesKnown(a [][]int, b [][]int) [][]int {
	return tableOf(len(a)*len(b), len(a[0])*len(b[0]), func(row, ask int) bool {
		return a[row/len(b)][ask/len(b[0])] == 1 && b[row%len(b)][ask%len(b[0])] == 1
	})
}

func cloneTable(table [][]int) [][]int {
	var list [][]int
	for _, row := range table {
		list = append(list, slices.Clone(row))
	}
	return list
}

// wantFraction holds a fraction against one, which must be in lowest terms.
func wantFraction(t *testing.T, what string, up int, down int, want *big.Rat, args ...any) {
	t.Helper()
	if int64(up) != want.Num().Int64() || int64(down) != want.Denom().Int64() {
		t.Errorf("%s%v = %d, %d, want %d, %d", what, args, up, down, want.Num(), want.Denom())
	}
}

func wantTwice(t *testing.T, table [][]int, row int, i int, j int, is bool) {
	t.Helper()
	if gotRow, gotI, gotJ, ok := impl.TwiceAt(table); gotRow != row || gotI != i || gotJ != j || ok != is {
		t.Errorf("TwiceAt(%v) = %d, %d, %d, %t, want %d, %d, %d, %t", table, gotRow, gotI, gotJ, ok, row, i, j, is)
	}
}

func wantNoFraction(t *testing.T, what string, up int, down int, args ...any) {
	t.Helper()
	if up != -1 || down != -1 {
		t.Errorf("%s%v = %d, %d, want -1, -1", what, args, up, down)
	}
}

func wantTimes(t *testing.T, a [][]int, b [][]int, want [][]int) {
	t.Helper()
	if got, ok := impl.TimesTable(a, b); !ok || !sameRows(got, want) {
		t.Errorf("TimesTable(%v, %v) = %v, %t, want %v, true", a, b, got, ok, want)
	}
}

func wantNoTimes(t *testing.T, a [][]int, b [][]int) {
	t.Helper()
	for range 2 {
		if got, ok := impl.TimesTable(a, b); got != nil || ok {
			t.Errorf("TimesTable(%v, %v) = %v, %t, want nil, false", a, b, got, ok)
		}
		a, b = b, a
	}
}

// countsKnown is what the program is to tell of a table.
type countsKnown struct {
	table   [][]int
	was     [][]int
	taken   int
	row     int
	first   int
	second  int
	twice   bool
	pairs   int
	again   *big.Rat
	chances [5]*big.Rat
}

// known counts once for many calls, and keeps a copy that shows whether one of them writes to the table.
func known(table [][]int) countsKnown {
	c := countsKnown{table: table, was: cloneTable(table), taken: takenKnown(table), pairs: pairsKnown(table), again: againKnown(table)}
	c.row, c.first, c.second, c.twice = twiceKnown(table)
	for i := range c.chances {
		c.chances[i] = chanceKnown(table, i+1)
	}
	return c
}

// want calls everything for the table, and then looks at the table itself.
func (c countsKnown) want(t *testing.T) {
	t.Helper()
	if !impl.TableOk(c.table) {
		t.Errorf("TableOk(%v) = false", c.table)
	}
	if got := impl.TakenOf(c.table); got != c.taken {
		t.Errorf("TakenOf(%v) = %d, want %d", c.table, got, c.taken)
	}
	wantTwice(t, c.table, c.row, c.first, c.second, c.twice)
	if got := impl.PairsOf(c.table); got != c.pairs {
		t.Errorf("PairsOf(%v) = %d, want %d", c.table, got, c.pairs)
	}
	up, down := impl.AgainOf(c.table)
	wantFraction(t, "AgainOf", up, down, c.again, c.table)
	for i, chance := range c.chances {
		up, down := impl.ChanceOf(c.table, i+1)
		wantFraction(t, "ChanceOf", up, down, chance, c.table, i+1)
	}
	wantTimes(t, c.table, [][]int{{1}}, c.was)
	if !sameRows(c.table, c.was) {
		t.Errorf("%v was written to: it is %v", c.was, c.table)
	}
}

func TestTableBounds(t *testing.T) {
	wantNumber(t, "MaxBegin", impl.MaxBegin, 12)
	wantNumber(t, "MaxAsk", impl.MaxAsk, 8)
	wantNumber(t, "MaxTimes", impl.MaxTimes, 5)
}

func TestTablesOneByOne(t *testing.T) {
	for _, table := range allTables() {
		known(table).want(t)
	}
}

func TestTablesByHand(t *testing.T) {
	counts := func(table [][]int, taken int, pairs int, again [2]int, chance [2]int) {
		t.Helper()
		wantNumber(t, fmt.Sprint("TakenOf ", table), impl.TakenOf(table), taken)
		wantNumber(t, fmt.Sprint("PairsOf ", table), impl.PairsOf(table), pairs)
		if up, down := impl.AgainOf(table); up != again[0] || down != again[1] {
			t.Errorf("AgainOf(%v) = %d, %d, want %v", table, up, down, again)
		}
		if up, down := impl.ChanceOf(table, 1); up != chance[0] || down != chance[1] {
			t.Errorf("ChanceOf(%v, 1) = %d, %d, want %v", table, up, down, chance)
		}
	}
	counts([][]int{{0}}, 0, 0, [2]int{1, 1}, [2]int{0, 1})
	counts([][]int{{1}}, 1, 0, [2]int{1, 1}, [2]int{1, 1})
	counts([][]int{{1}, {0}, {1}, {1}}, 3, 0, [2]int{1, 1}, [2]int{3, 4})
	counts([][]int{{1, 0, 1}}, 2, 2, [2]int{3, 1}, [2]int{2, 3})
	counts([][]int{{1, 1, 1}}, 3, 6, [2]int{5, 2}, [2]int{1, 1})
	counts([][]int{{0, 0, 0}, {0, 1, 0}, {1, 0, 1}, {1, 1, 1}}, 6, 8, [2]int{15, 8}, [2]int{1, 2})
	counts([][]int{{1, 0}, {0, 1}}, 2, 0, [2]int{1, 1}, [2]int{1, 2})
	counts([][]int{{1, 1}, {1, 1}}, 4, 4, [2]int{3, 1}, [2]int{1, 1})
	counts(allZeros(12, 8), 0, 0, [2]int{1, 1}, [2]int{0, 1})
	counts(allOnes(12, 8), 96, 672, [2]int{15, 7}, [2]int{1, 1})
	counts(allOnes(12, 1), 12, 0, [2]int{1, 1}, [2]int{1, 1})
	counts(allOnes(1, 8), 8, 56, [2]int{15, 7}, [2]int{1, 1})
	// The rows have 0, 0, 0, 0, 1, 2, 3, 4, 5, 6, 7 and 8 entries that are 1.
	counts(tableOf(12, 8, func(row, ask int) bool { return ask < row-3 }), 36, 168, [2]int{3023, 1680}, [2]int{3, 8})
}

// TestOfRowsThatAreNoTable calls everything with them, in each place.
func TestOfRowsThatAreNoTable(t *testing.T) {
	for _, wrong := range tablesWrong() {
		if impl.TableOk(wrong) {
			t.Errorf("TableOk(%v) = true", wrong)
		}
		if got := impl.TakenOf(wrong); got != -1 {
			t.Errorf("TakenOf(%v) = %d, want -1", wrong, got)
		}
		wantTwice(t, wrong, -1, -1, -1, false)
		if got := impl.PairsOf(wrong); got != -1 {
			t.Errorf("PairsOf(%v) = %d, want -1", wrong, got)
		}
		wantNoTimes(t, wrong, wrong)
		wantNoTimes(t, wrong, [][]int{{1}})
		wantNoTimes(t, wrong, [][]int{{0, 1}, {1, 0}})
		wantNoTimes(t, wrong, allOnes(12, 8))
		up, down := impl.AgainOf(wrong)
		wantNoFraction(t, "AgainOf", up, down, wrong)
		for _, times := range []int{1, 5, 0, 6} {
			up, down := impl.ChanceOf(wrong, times)
			wantNoFraction(t, "ChanceOf", up, down, wrong, times)
		}
	}
}

func TestP71TablesCanLoseRows(t *testing.T) {
	for _, table := range allTables() {
		for rows := len(table); rows > 0; rows-- {
			if !impl.TableOk(table[:rows]) {
				t.Errorf("TableOk(%v) = false", table[:rows])
			}
		}
		if impl.TableOk(table[:0]) {
			t.Errorf("TableOk of no rows of %v = true", table)
		}
	}
}

func TestP72RowsAddUp(t *testing.T) {
	for _, table := range allTables() {
		if len(table) < 2 {
			continue
		}
		got, first, others := impl.TakenOf(table), impl.TakenOf(table[:1]), impl.TakenOf(table[1:])
		if got != first+others || got != takenKnown(table) {
			t.Errorf("TakenOf(%v) = %d, want %d and %d together", table, got, first, others)
		}
	}
}

func TestP26WhoHasMoreAnswersTakenThanBeginningsHasTwoAtOne(t *testing.T) {
	for _, table := range allTables() {
		row, i, j, ok := impl.TwiceAt(table)
		if ok && (i == j || table[row][i] != 1 || table[row][j] != 1) {
			t.Errorf("TwiceAt(%v) = %d, %d, %d, where there are not two entries that are 1", table, row, i, j)
		}
		if !ok && takenKnown(table) > len(table) {
			t.Errorf("TwiceAt(%v) tells none, but there are more entries that are 1 than rows", table)
		}
	}
}

// TestTwiceAtOfTablesWithOneSuchRow puts two entries that are 1 into each row, at all places, behind rows with none, and with one.
func TestTwiceAtOfTablesWithOneSuchRow(t *testing.T) {
	sizes(func(rows, asks int) {
		for row := range rows {
			for j := range asks {
				for i := range j {
					one := tableOf(rows, asks, func(r, ask int) bool { return r == row && (ask == i || ask == j) })
					wantTwice(t, one, row, i, j, true)
					before := tableOf(rows, asks, func(r, ask int) bool {
						return r == row && (ask == i || ask >= j) || r < row && ask == (r+i)%asks || r > row
					})
					wantTwice(t, before, row, i, j, true)
				}
			}
		}
	})
}

// TestTwiceAtOfTablesWithoutSuchARow puts as many entries that are 1 into a table as there can be without two in a row.
func TestTwiceAtOfTablesWithoutSuchARow(t *testing.T) {
	sizes(func(rows, asks int) {
		for first := range asks {
			wantTwice(t, tableOf(rows, asks, func(row, ask int) bool { return ask == (row*first+first)%asks }), -1, -1, -1, false)
		}
	})
}

func TestP27PairsAreAtLeastSoMany(t *testing.T) {
	for _, table := range allTables() {
		pairs, taken := impl.PairsOf(table), takenKnown(table)
		if len(table)*pairs < taken*(taken-len(table)) {
			t.Errorf("PairsOf(%v) = %d is too few for %d entries that are 1", table, pairs, taken)
		}
	}
	// With as many in each row it cannot be fewer.
	sizes(func(rows, asks int) {
		for each := range asks + 1 {
			table := tableOf(rows, asks, func(row, ask int) bool { return (row+ask)%asks < each })
			wantNumber(t, "rows times PairsOf", rows*impl.PairsOf(table), rows*each*(rows*each-rows), rows, asks, each)
		}
	})
}

// sizesOfTwo calls a function for all sizes of two tables.
func sizesOfTwo(do func(rows int, asks int, otherRows int, otherAsks int)) {
	sizes(func(rows, asks int) {
		sizes(func(otherRows, otherAsks int) { do(rows, asks, otherRows, otherAsks) })
	})
}

func TestP28AskedTwoTimesAnswersMultiply(t *testing.T) {
	sizesOfTwo(func(rows, asks, otherRows, otherAsks int) {
		if rows*otherRows > 12 || asks*otherAsks > 8 {
			return
		}
		others := some(tablesOfSize(otherRows, otherAsks), 7)
		for _, a := range some(tablesOfSize(rows, asks), 7) {
			for _, b := range others {
				wantTimes(t, a, b, timesKnown(a, b))
				got, ok := impl.TimesTable(a, b)
				if !ok || impl.TakenOf(got) != impl.TakenOf(a)*impl.TakenOf(b) || impl.TakenOf(got) != takenKnown(a)*takenKnown(b) {
					t.Errorf("TimesTable(%v, %v) = %v, %t has not as many entries that are 1 as both, multiplied", a, b, got, ok)
				}
			}
		}
	})
}

func TestTimesTableOfSmallTables(t *testing.T) {
	small := smallTables(4)
	for _, a := range small {
		for _, b := range small {
			if len(a)*len(b) > 12 || len(a[0])*len(b[0]) > 8 {
				wantNoTimes(t, a, b)
			} else {
				wantTimes(t, a, b, timesKnown(a, b))
			}
		}
	}
}

func TestTimesTableByHand(t *testing.T) {
	wantTimes(t, [][]int{{1, 0}, {1, 1}}, [][]int{{0, 1}, {1, 1}}, [][]int{{0, 1, 0, 0}, {1, 1, 0, 0}, {0, 1, 0, 1}, {1, 1, 1, 1}})
	wantTimes(t, [][]int{{0, 1}, {1, 1}}, [][]int{{1, 0}, {1, 1}}, [][]int{{0, 0, 1, 0}, {0, 0, 1, 1}, {1, 0, 1, 0}, {1, 1, 1, 1}})
	wantTimes(t, [][]int{{1, 0}}, [][]int{{1}, {1}}, [][]int{{1, 0}, {1, 0}})
	wantTimes(t, [][]int{{1}, {0}, {1}}, [][]int{{1, 1, 0}}, [][]int{{1, 1, 0}, {0, 0, 0}, {1, 1, 0}})
	wantTimes(t, [][]int{{0}}, [][]int{{1, 1}, {1, 1}}, [][]int{{0, 0}, {0, 0}})
}

// TestTimesTableAtTheBounds takes all sizes: what has more rows or questions than a table may have is none.
func TestTimesTableAtTheBounds(t *testing.T) {
	most, tooMany := 0, 0
	sizesOfTwo(func(rows, asks, otherRows, otherAsks int) {
		a, b := allOnes(rows, asks), allOnes(otherRows, otherAsks)
		if rows*otherRows <= 12 && asks*otherAsks <= 8 {
			wantTimes(t, a, b, allOnes(rows*otherRows, asks*otherAsks))
			most++
			return
		}
		wantNoTimes(t, a, b)
		wantNoTimes(t, allZeros(rows, asks), b)
		tooMany++
	})
	wantNumber(t, "sizes of two tables whose product is one", most, 35*20)
	wantNumber(t, "sizes of two tables whose product is none", tooMany, 96*96-35*20)
	wantTimes(t, mixedTable(3, 2, 4), mixedTable(4, 4, 4), timesKnown(mixedTable(3, 2, 4), mixedTable(4, 4, 4)))
	wantNoTimes(t, allOnes(7, 1), allOnes(2, 1))
	wantNoTimes(t, allOnes(12, 1), allOnes(2, 1))
	wantNoTimes(t, allOnes(1, 3), allOnes(1, 3))
	wantNoTimes(t, allOnes(1, 8), allOnes(1, 2))
	wantNoTimes(t, allOnes(7, 3), allOnes(2, 3))
}

func TestP29ThreeTimesAreEnoughOnTheAverage(t *testing.T) {
	for _, table := range allTables() {
		up, down := impl.AgainOf(table)
		if down < 1 || up < down || up > 3*down {
			t.Errorf("AgainOf(%v) = %d, %d, which is not from 1 to 3", table, up, down)
		}
		_, _, _, twice := impl.TwiceAt(table)
		if one := up == 1 && down == 1; one == twice {
			t.Errorf("AgainOf(%v) = %d, %d, but TwiceAt says %t", table, up, down, twice)
		}
	}
}

func TestAgainOfTablesWithAsManyInEachRow(t *testing.T) {
	sizes(func(rows, asks int) {
		for each := range asks + 1 {
			up, down := impl.AgainOf(tableOf(rows, asks, func(row, ask int) bool { return (row+ask)%asks < each }))
			want := big.NewRat(1, 1)
			if each > 1 {
				want.Add(want, big.NewRat(int64(each), int64(each-1)))
			}
			wantFraction(t, "AgainOf with as many in each row", up, down, want, rows, asks, each)
		}
	})
}

// putOnAverage adds up how likely it is, for one beginning and first question after the other, that a first, a second, a third question is put, and so on.
func putOnAverage(table [][]int) float64 {
	sum := 0.0
	for _, row := range table {
		for ask, entry := range row {
			others := float64(othersTaken(row, ask))
			sum++
			if entry == 0 || others == 0 {
				continue
			}
			likely := 1.0
			for range 500 {
				sum += likely
				likely *= 1 - others/float64(len(row))
			}
		}
	}
	return sum / float64(len(table)*len(table[0]))
}

func TestAgainOfTablesQuestionByQuestion(t *testing.T) {
	for _, table := range allTables() {
		up, down := impl.AgainOf(table)
		if got, want := float64(up)/float64(down), putOnAverage(table); math.Abs(got-want) > 1e-9 {
			t.Errorf("AgainOf(%v) = %d, %d, want about %f", table, up, down, want)
		}
	}
}

func TestP30AskedAgainAndAgainCheatersAreSeldom(t *testing.T) {
	for _, table := range allTables() {
		up, down := impl.ChanceOf(table, 2)
		if twice, ok := impl.TimesTable(table, table); ok {
			if again, of := impl.ChanceOf(twice, 1); up != again || down != of {
				t.Errorf("ChanceOf(%v, 2) = %d, %d, want %d, %d as of asking two times", table, up, down, again, of)
			}
		}
		before := big.NewRat(1, 1)
		for times := 1; times <= impl.MaxTimes; times++ {
			up, down := impl.ChanceOf(table, times)
			if down < 1 {
				t.Fatalf("ChanceOf(%v, %d) = %d, %d is no fraction", table, times, up, down)
			}
			now := big.NewRat(int64(up), int64(down))
			if now.Cmp(before) > 0 || now.Sign() < 0 {
				t.Errorf("ChanceOf(%v, %d) = %d, %d is greater than with fewer times", table, times, up, down)
			}
			before = now
		}
	}
}

func TestChanceOfTablesAtTheEdges(t *testing.T) {
	chance := func(table [][]int, times int, wantUp int, wantDown int) {
		t.Helper()
		if up, down := impl.ChanceOf(table, times); up != wantUp || down != wantDown {
			t.Errorf("ChanceOf(%v, %d) = %d, %d, want %d, %d", table, times, up, down, wantUp, wantDown)
		}
	}
	sizes(func(rows, asks int) {
		for times := 1; times <= 5; times++ {
			chance(allZeros(rows, asks), times, 0, 1)
			chance(allOnes(rows, asks), times, 1, 1)
		}
	})
	halves := [][]int{{1, 0, 1}, {0, 0, 1}, {1, 1, 1}, {0, 0, 0}}
	for i, down := range []int{2, 4, 8, 16, 32} {
		chance(halves, i+1, 1, down)
	}
	one := tableOf(12, 8, func(row, ask int) bool { return row == 11 && ask == 7 })
	chance(one, 1, 1, 96)
	chance(one, 5, 1, 8153726976)
	butOne := tableOf(12, 8, func(row, ask int) bool { return row != 0 || ask != 0 })
	chance(butOne, 1, 95, 96)
	chance(butOne, 5, 7737809375, 8153726976)
	chance(tableOf(11, 7, func(row, ask int) bool { return row < 5 }), 3, 125, 1331)
}

func TestChanceOfTablesAskedNoNumberOfTimes(t *testing.T) {
	for _, table := range allTables() {
		for _, times := range append([]int{0, -1, -2, -5, 6, 7, 8}, numbersFarOff...) {
			up, down := impl.ChanceOf(table, times)
			wantNoFraction(t, "ChanceOf", up, down, table, times)
		}
	}
}

// knownTables is a choice of tables of all sizes, with what is told of them.
func knownTables() []countsKnown {
	var list []countsKnown
	sizes(func(rows, asks int) {
		for _, table := range some(tablesOfSize(rows, asks), 5) {
			list = append(list, known(table))
		}
	})
	return list
}

// TestTablesInAnyOrder makes the same calls many times over, by one processor and by more of them.
func TestTablesInAnyOrder(t *testing.T) {
	defer runtime.GOMAXPROCS(runtime.GOMAXPROCS(0))
	list := knownTables()
	for _, processors := range []int{1, 2, 3, 8} {
		runtime.GOMAXPROCS(processors)
		for range 3 {
			for _, c := range list {
				c.want(t)
			}
		}
		for _, c := range some(list, 4) {
			for range 300 {
				c.want(t)
			}
		}
	}
}

// TestTablesAtOnce makes the same calls, for the same tables, from some goroutines at a time.
func TestTablesAtOnce(t *testing.T) {
	list := knownTables()
	var callers sync.WaitGroup
	for i := range 8 {
		callers.Add(1)
		go func() {
			defer callers.Done()
			for n := range list {
				list[(n+i*7)%len(list)].want(t)
			}
		}()
	}
	callers.Wait()
}

// TestTablesLeaveNoGoroutine counts them before and after. One that has done its work may take a moment to end.
func TestTablesLeaveNoGoroutine(t *testing.T) {
	before := runtime.NumGoroutine()
	for _, c := range knownTables() {
		c.want(t)
	}
	for _, wrong := range some(tablesWrong(), 500) {
		impl.TableOk(wrong)
		impl.TakenOf(wrong)
		impl.TwiceAt(wrong)
		impl.PairsOf(wrong)
		impl.TimesTable(wrong, wrong)
		impl.AgainOf(wrong)
		impl.ChanceOf(wrong, 1)
	}
	for range 2000 {
		if runtime.NumGoroutine() <= before {
			return
		}
		time.Sleep(time.Millisecond)
	}
	t.Errorf("there are %d goroutines, and were %d before", runtime.NumGoroutine(), before)
}

// TestTablesAreNotKept changes a table, entry by entry, between calls with the same memory.
func TestTablesAreNotKept(t *testing.T) {
	sizes(func(rows, asks int) {
		table := allZeros(rows, asks)
		for n := range rows * asks {
			place := n * 7 % (rows * asks)
			table[place/asks][place%asks] ^= 1
			known(table).want(t)
		}
		table[rows-1][asks-1] = 2
		wantNumber(t, "TakenOf a table that is none any more", impl.TakenOf(table), -1, rows, asks)
		table[rows-1][asks-1] = 0
		known(table).want(t)
	})
}

// roomyTable is a copy of a table with room behind it and behind each row, which shows whether it was written to.
func roomyTable(table [][]int) [][]int {
	room := make([][]int, 0, len(table)+2)
	for _, row := range table {
		room = append(room, roomy(row))
	}
	for i := len(room); i < cap(room); i++ {
		room[:cap(room)][i] = []int{-9}
	}
	return room
}

func wantTableKept(t *testing.T, what string, table [][]int, was [][]int) {
	t.Helper()
	for i, row := range table {
		wantKept(t, what, row, was[i])
	}
	for _, row := range table[len(table):cap(table)] {
		wantList(t, "the room behind "+what, row, []int{-9})
	}
}

// TestTablesAreNewMemory writes over each row of a product, and then looks at the others, at the arguments, and at the same product once more. Times 1 the rows are those of the other table, but not the same memory.
func TestTablesAreNewMemory(t *testing.T) {
	sizesOfTwo(func(rows, asks, otherRows, otherAsks int) {
		if rows*otherRows > 12 || asks*otherAsks > 8 {
			return
		}
		for _, first := range [][][]int{allOnes(rows, asks), mixedTable(rows, asks, 5)} {
			for _, second := range [][][]int{allOnes(otherRows, otherAsks), mixedTable(otherRows, otherAsks, 5)} {
				a, b, want := roomyTable(first), roomyTable(second), timesKnown(first, second)
				for i := range want {
					got, ok := impl.TimesTable(a, b)
					if !ok || len(got) != len(want) {
						t.Fatalf("TimesTable(%v, %v) = %v, %t, want %v, true", first, second, got, ok, want)
					}
					spoil(got[i])
					wantRows(t, "TimesTable before the row that was written over", got[:i], want[:i], rows, asks, otherRows, otherAsks)
					wantRows(t, "TimesTable behind the row that was written over", got[i+1:], want[i+1:], rows, asks, otherRows, otherAsks)
					clear(got[:cap(got)])
					wantTableKept(t, "the first table", a, first)
					wantTableKept(t, "the second table", b, second)
				}
				wantTimes(t, a, b, want)
			}
		}
	})
}

// TestTablesAreNotWritten calls everything with tables that have room behind them, and with rows that are no table.
func TestTablesAreNotWritten(t *testing.T) {
	for _, was := range append(some(tablesWrong(), 2000), allTables()...) {
		table := roomyTable(was)
		impl.TableOk(table)
		impl.TakenOf(table)
		impl.TwiceAt(table)
		impl.PairsOf(table)
		impl.TimesTable(table, table)
		impl.TimesTable(table, [][]int{{1}})
		impl.TimesTable([][]int{{1}}, table)
		impl.AgainOf(table)
		impl.ChanceOf(table, 1)
		impl.ChanceOf(table, 5)
		impl.ChanceOf(table, 6)
		wantTableKept(t, "a table", table, was)
	}
}
