package tests

import (
	"math"
	"math/big"
	"slices"
	"testing"

	"loop.example/g01126/impl"
)

func TestPromise6Examples(t *testing.T) {
	for x := -3; x <= 3; x++ {
		table, ok := impl.TableAt(2, x)
		if !ok || !sameLists(table, [][]int{{x * x, x}, {x, x * x}}) {
			t.Error("the table of 2 and", x, table, ok)
		}
		want := x * x * (x*x - 1)
		if d, ok := impl.DeterminantOf(table); !ok || d != want {
			t.Error("the determinant of 2 and", x, d, ok)
		}
		if d, ok := impl.ProductDeterminant(2, x); !ok || d != want {
			t.Error("the product of 2 and", x, d, ok)
		}
	}
	ones := [][]int{{1, 1}, {1, 1}}
	if r, ok := impl.RankOf(ones); !ok || r != 1 {
		t.Error("the rank of 2 and 1", r, ok)
	}
	if k, ok := impl.DependentRow(ones); !ok || k != 1 {
		t.Error("the row of 2 and 1 that depends", k, ok)
	}
	if sum, ok := impl.SumOfTable(2, 1); !ok || sum != 4 {
		t.Error("the sum of 2 and 1", sum, ok)
	}
	for k, want := range map[int]int{1: 2, 2: 1} {
		if e, ok := impl.ExponentOf(2, k); !ok || e != want {
			t.Errorf("ExponentOf(2, %d) is %d, %v", k, e, ok)
		}
	}
}

// TestPromise6NoArches has the pair of no arches, which has no components.
func TestPromise6NoArches(t *testing.T) {
	for x := -3; x <= 3; x++ {
		table, ok := impl.TableAt(0, x)
		if !ok || !sameLists(table, [][]int{{1}}) {
			t.Error("the table of 0 and", x, table, ok)
		}
		if d, ok := impl.DeterminantOf(table); !ok || d != 1 {
			t.Error("the determinant of 0 and", x, d, ok)
		}
		if sum, ok := impl.SumOfTable(0, x); !ok || sum != 1 {
			t.Error("the sum of 0 and", x, sum, ok)
		}
		product, ok := impl.ProductDeterminant(0, x)
		mustNotSucceed(t, "the product of 0", ok, product)
	}
	if table, ok := impl.ExponentTable(0); !ok || !sameLists(table, [][]int{{0}}) {
		t.Error("the components of no arches", table, ok)
	}
}

// isTableByWords reports whether there is a table of n and x.
func isTableByWords(n, x int) bool {
	return n >= 0 && n <= 3 && x >= -3 && x <= 3 || n == 4 && x >= -2 && x <= 2
}

// numbersAround are the wild numbers and all that are near 0.
func numbersAround() []int {
	numbers := wildNumbers()
	for i := -12; i <= 12; i++ {
		numbers = append(numbers, i)
	}
	return numbers
}

func TestPromise6Tables(t *testing.T) {
	for _, n := range numbersAround() {
		for _, x := range numbersAround() {
			table, tableOk := impl.TableAt(n, x)
			sum, sumOk := impl.SumOfTable(n, x)
			if !isTableByWords(n, x) {
				mustNotSucceed(t, "TableAt", tableOk, table)
				mustNotSucceed(t, "SumOfTable", sumOk, sum)
				continue
			}
			want := tableByWords(n, x)
			if !tableOk || !sameLists(table, want) {
				t.Errorf("TableAt(%d, %d) is %v, %v", n, x, table, tableOk)
			}
			wantSum := 0
			for _, number := range slices.Concat(want...) {
				wantSum += number
			}
			if !sumOk || sum != wantSum {
				t.Errorf("SumOfTable(%d, %d) is %d, %v", n, x, sum, sumOk)
			}
		}
		table, ok := impl.ExponentTable(n)
		if n < 0 || n > 4 {
			mustNotSucceed(t, "ExponentTable", ok, table)
		} else if !ok || !sameLists(table, componentsByWords(n)) {
			t.Errorf("ExponentTable(%d) is %v, %v", n, table, ok)
		}
	}
}

func TestPromise6Values(t *testing.T) {
	for _, k := range numbersAround() {
		for _, x := range numbersAround() {
			got, ok := impl.ValueAt(k, x)
			if k < 0 || k > 10 || x < -3 || x > 3 {
				mustNotSucceed(t, "ValueAt", ok, got)
			} else if !ok || got != valueByWords(k, x) {
				t.Errorf("ValueAt(%d, %d) is %d, %v", k, x, got, ok)
			}
		}
	}
	if got, ok := impl.ValueAt(10, -3); !ok || got != 17711 {
		t.Error("U(10) at -3", got, ok)
	}
}

func TestPromise6Exponents(t *testing.T) {
	for _, n := range numbersAround() {
		for _, k := range numbersAround() {
			got, ok := impl.ExponentOf(n, k)
			if n < 1 || n > 4 || k < 1 || k > n {
				mustNotSucceed(t, "ExponentOf", ok, got)
			} else if !ok || got != exponentByWords(n, k) {
				t.Errorf("ExponentOf(%d, %d) is %d, %v", n, k, got, ok)
			}
		}
	}
	for k, want := range []int{8, 13, 6, 1} {
		if got, ok := impl.ExponentOf(4, k+1); !ok || got != want {
			t.Errorf("ExponentOf(4, %d) is %d, %v", k+1, got, ok)
		}
	}
}

func TestPromise6Products(t *testing.T) {
	for _, n := range numbersAround() {
		for _, x := range numbersAround() {
			got, ok := impl.ProductDeterminant(n, x)
			if n == 0 || !isTableByWords(n, x) {
				mustNotSucceed(t, "ProductDeterminant", ok, got)
				continue
			}
			if !ok || productByWords(n, x).Cmp(big.NewInt(int64(got))) != 0 {
				t.Errorf("ProductDeterminant(%d, %d) is %d, %v", n, x, got, ok)
			}
			table, _ := impl.TableAt(n, x)
			if d, ok := impl.DeterminantOf(table); !ok || d != got {
				t.Errorf("the table of %d and %d has the determinant %d, %v and not %d", n, x, d, ok, got)
			}
			rank, _ := impl.RankOf(table)
			if k, ok := impl.DependentRow(table); ok != (got == 0) || ok != (rank < len(table)) {
				t.Errorf("the table of %d and %d has the rank %d and %d, %v as its row that depends", n, x, rank, k, ok)
			}
		}
	}
	if got, ok := impl.ProductDeterminant(4, -2); !ok || got != 8_358_844_170_240 {
		t.Error("the product of 4 and -2", got, ok)
	}
}

// checkDeterminant holds a determinant against one that is told by fractions.
func checkDeterminant(t *testing.T, rows [][]int) {
	t.Helper()
	want := determinantByWords(rows)
	if len(rows) <= 5 && want.Cmp(big.NewInt(int64(expandedByWords(rows)))) != 0 {
		t.Fatalf("the test has two determinants of %v", rows)
	}
	got, ok := impl.DeterminantOf(rows)
	if want.CmpAbs(big.NewInt(100_000_000_000_000_000)) > 0 {
		mustNotSucceed(t, "the determinant "+want.String(), ok, got)
	} else if !ok || want.Cmp(big.NewInt(int64(got))) != 0 {
		t.Errorf("DeterminantOf(%v) is %d, %v and not %v", rows, got, ok, want)
	}
}

// checkDependence holds a rank and a row that depends against those that are told
// by fractions.
func checkDependence(t *testing.T, rows [][]int) {
	t.Helper()
	dependent := dependentByWords(rows)
	want := len(rows) - len(dependent)
	if len(rows) <= 3 && rankByMinors(rows) != want {
		t.Fatalf("the test has two ranks of %v", rows)
	}
	if got, ok := impl.RankOf(rows); !ok || got != want {
		t.Errorf("RankOf(%v) is %d, %v and not %d", rows, got, ok, want)
	}
	got, ok := impl.DependentRow(rows)
	if len(dependent) == 0 {
		mustNotSucceed(t, "the row that depends where none does", ok, got)
	} else if !ok || got != dependent[0] {
		t.Errorf("DependentRow(%v) is %d, %v and not %d", rows, got, ok, dependent[0])
	}
}

func TestPromise6Rows(t *testing.T) {
	for _, rows := range rowsToTry() {
		if !areRowsByWords(rows) {
			t.Fatalf("the test takes %v for rows", rows)
		}
		checkDeterminant(t, rows)
		checkDependence(t, rows)
	}
}

func TestPromise6DeterminantLimits(t *testing.T) {
	const limit = 100_000_000_000_000_000
	for _, want := range []int{limit, limit - 1, 1<<53 + 1, 1, 0, -1, -1<<53 - 1, 1 - limit, -limit} {
		if got, ok := impl.DeterminantOf(rowsWithDeterminant(want)); !ok || got != want {
			t.Errorf("the determinant %d is %d, %v", want, got, ok)
		}
	}
	for _, beyond := range []int{limit + 1, limit + 2, limit + 1<<50, -limit - 1, -limit - 2, -limit - 1<<50} {
		rows := rowsWithDeterminant(beyond)
		got, ok := impl.DeterminantOf(rows)
		mustNotSucceed(t, "a determinant beyond the limit", ok, got)
		if rank, ok := impl.RankOf(rows); !ok || rank != 14 {
			t.Errorf("the rank of rows with the determinant %d is %d, %v", beyond, rank, ok)
		}
		k, ok := impl.DependentRow(rows)
		mustNotSucceed(t, "a row that depends, with a determinant that is not 0", ok, k)
	}
}

// TestPromise6DeterminantsRoundAnInt has determinants that an int does not hold,
// but may take for 0 or for others within the limit.
func TestPromise6DeterminantsRoundAnInt(t *testing.T) {
	all := [][][]int{
		blocks(widest(1), widest(1), widest(1), widest(1), widest(1), widest(1), widest(1)),
		blocks(widest(3), widest(2), widest(1)),
		blocks(widest(2), widest(2), widest(2), diagonal(16, 1)),
		blocks(widest(2), widest(2), widest(2), diagonal(16, 16)),
	}
	for _, rows := range all {
		want := determinantByWords(rows)
		if want.BitLen() < 64 || !areRowsByWords(rows) {
			t.Fatalf("the test takes %v for a great determinant", want)
		}
		got, ok := impl.DeterminantOf(rows)
		mustNotSucceed(t, "the determinant "+want.String(), ok, got)
		if rank, ok := impl.RankOf(rows); !ok || rank != 14 {
			t.Errorf("the rank of rows with the determinant %v is %d, %v", want, rank, ok)
		}
	}
	for seed := range 150 {
		checkDeterminant(t, scattered(14, 16, seed))
	}
}

func TestPromise6DependentRows(t *testing.T) {
	examples := []struct {
		rows [][]int
		rank int
		row  int
	}{
		{[][]int{{0}}, 0, 0},
		{sameNumbers(2, 0), 0, 0},
		{sameNumbers(14, 0), 0, 0},
		{[][]int{{0, 0}, {1, 2}}, 1, 0},
		{[][]int{{1, 2}, {0, 0}}, 1, 1},
		{[][]int{{2, 4}, {3, 6}}, 1, 1},
		{[][]int{{0, 2}, {0, -3}}, 1, 1},
		{[][]int{{1, 2, 3}, {0, 0, 0}, {2, 4, 6}}, 1, 1},
		{[][]int{{1, 2, 3}, {4, 5, 6}, {7, 8, 9}}, 2, 2},
		{[][]int{{2, 0, 0}, {0, 3, 0}, {1, 1, 0}}, 2, 2},
		{[][]int{{0, 0, 1}, {0, 0, 100}, {0, 1, 0}}, 2, 1},
		{diagonal(1, 1, 1, 1, 0, 1, 1, 0, 1, 1, 1, 1, 1, 1), 12, 4},
		{diagonal(16, 16, 16, 16, 16, 16, 16, 16, 16, 16, 16, 16, 16, 0), 13, 13},
	}
	for _, e := range examples {
		if rank, ok := impl.RankOf(e.rows); !ok || rank != e.rank {
			t.Errorf("RankOf(%v) is %d, %v", e.rows, rank, ok)
		}
		if k, ok := impl.DependentRow(e.rows); !ok || k != e.row {
			t.Errorf("DependentRow(%v) is %d, %v", e.rows, k, ok)
		}
		if d, ok := impl.DeterminantOf(e.rows); !ok || d != 0 {
			t.Errorf("DeterminantOf(%v) is %d, %v", e.rows, d, ok)
		}
	}
	for size := 1; size <= 14; size++ {
		k, ok := impl.DependentRow(diagonalOf(size, -1))
		mustNotSucceed(t, "a row that depends on a diagonal", ok, k)
	}
}

// TestPromise6RowLimits has rows and numbers at the limits, which may be met; the
// wild rows pass them by one.
func TestPromise6RowLimits(t *testing.T) {
	limits := [][][]int{{{100}}, {{-100}}, diagonalOf(5, 100), diagonalOf(5, -100), diagonalOf(5, 17), diagonal(16, 1, -16, 1, 1, 16), withNumber(diagonalOf(14, 1), 0, 13, -16), diagonal(16, 1, 1, 1, 1, 1, 1, 1, 1, 1, 1, 1, 1, -16)}
	for _, rows := range limits {
		checkDeterminant(t, rows)
		checkDependence(t, rows)
		if d, ok := impl.DeterminantOf(rows); !ok || d == 0 {
			t.Errorf("DeterminantOf(%v) is %d, %v", rows, d, ok)
		}
	}
	for what, rows := range wildRows() {
		if areRowsByWords(rows) {
			t.Fatalf("the test takes what is %s for wild", what)
		}
		d, ok := impl.DeterminantOf(rows)
		mustNotSucceed(t, "the determinant of what is "+what, ok, d)
		rank, ok := impl.RankOf(rows)
		mustNotSucceed(t, "the rank of what is "+what, ok, rank)
		k, ok := impl.DependentRow(rows)
		mustNotSucceed(t, "the row that depends of what is "+what, ok, k)
		for length := range 17 {
			sums, ok := impl.ApplyTable(rows, make([]int, length))
			mustNotSucceed(t, "sums of what is "+what, ok, sums)
		}
	}
}

func TestPromise6ApplyTable(t *testing.T) {
	for seed, rows := range rowsToTry() {
		if len(rows) <= 3 && seed%10 != 0 {
			continue
		}
		next := scatter(seed, 1000)
		v := make([]int, len(rows))
		for c := range v {
			v[c] = next()
		}
		want := make([]int, len(rows))
		for k := range rows {
			for c := range v {
				want[k] += rows[k][c] * v[c]
			}
		}
		if got, ok := impl.ApplyTable(rows, v); !ok || !sameList(got, want) {
			t.Errorf("ApplyTable(%v, %v) is %v, %v", rows, v, got, ok)
		}
	}
	if got, ok := impl.ApplyTable([][]int{{1, 2}, {3, 4}}, []int{1000, -1000}); !ok || !sameList(got, []int{-1000, -1000}) {
		t.Error("factors at their limits", got, ok)
	}
	if got, ok := impl.ApplyTable(sameNumbers(5, -100), slices.Repeat([]int{1000}, 5)); !ok || !sameList(got, slices.Repeat([]int{-500_000}, 5)) {
		t.Error("numbers and factors at their limits", got, ok)
	}
	for what, v := range map[string][]int{
		"nil":                 nil,
		"empty":               {},
		"one too few":         {1},
		"one too many":        {1, 2, 3},
		"1001":                {1001, 0},
		"1001 at the end":     {0, 1001},
		"-1001":               {-1001, 0},
		"-1001 at the end":    {0, -1001},
		"the greatest":        {math.MaxInt, 0},
		"the least":           {0, math.MinInt},
		"very many":           make([]int, 100000),
		"too many, and great": {0, 0, 1001},
	} {
		for _, rows := range [][][]int{{{1, 2}, {3, 4}}, sameNumbers(2, 0)} {
			got, ok := impl.ApplyTable(rows, v)
			mustNotSucceed(t, "sums with factors that are "+what, ok, got)
		}
	}
}

func TestPromise6JoinedSystems(t *testing.T) {
	for n := range 7 {
		for _, p := range systemsByWords(n) {
			for i := -2; i <= 2*n+1; i++ {
				got, joined, ok := impl.JoinedSystem(p, i)
				if i < 0 || i >= 2*n-1 {
					mustNotSucceed(t, "a join where there are no two points", ok, got, joined)
					continue
				}
				want, wantJoined := joinedByWords(p, i)
				if !ok || !sameList(got, want) || joined != wantJoined || !isSystemByWords(got) {
					t.Errorf("JoinedSystem(%v, %d) is %v, %d, %v", p, i, got, joined, ok)
				}
			}
		}
	}
	for what, p := range wildLists() {
		for i := -1; i <= 13; i++ {
			got, joined, ok := impl.JoinedSystem(p, i)
			mustNotSucceed(t, "a join in what is "+what, ok, got, joined)
		}
	}
}

// TestPromise6JoinsMoveOver moves a join from one side of a pair to the other one:
// as many curves are there, those counted that the join cut off.
func TestPromise6JoinsMoveOver(t *testing.T) {
	for n := 1; n <= 5; n++ {
		for _, m := range pairsByWords(n) {
			for i := range 2*n - 1 {
				above, cutAbove, ok := impl.JoinedSystem(m.Top, i)
				below, cutBelow, okBelow := impl.JoinedSystem(m.Bottom, i)
				first, okFirst := impl.ComponentsOf(impl.Meander{Top: above, Bottom: m.Bottom})
				second, okSecond := impl.ComponentsOf(impl.Meander{Top: m.Top, Bottom: below})
				if !ok || !okBelow || !okFirst || !okSecond || first+cutAbove != second+cutBelow {
					t.Fatalf("a join of %d moved from above %v to below: %d and %d, %d and %d", i, m, first, cutAbove, second, cutBelow)
				}
			}
		}
	}
}
