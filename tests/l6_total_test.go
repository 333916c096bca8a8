package tests

import (
	"slices"
	"testing"

	"loop.example/g01126/impl"
)

// rowsGuard guards each row, and what is in front of the rows and behind them.
type rowsGuard struct {
	rows   []guard
	memory [][]int
	before [][]int
	list   [][]int
}

func newRowsGuard(rows [][]int) rowsGuard {
	if rows == nil {
		return rowsGuard{}
	}
	g := rowsGuard{memory: make([][]int, len(rows)+4)}
	for i := range g.memory {
		row := []int{sentinel}
		if k := i - 2; k >= 0 && k < len(rows) {
			row = rows[k]
		}
		guarded := newGuard(row)
		g.rows = append(g.rows, guarded)
		g.memory[i] = guarded.list
	}
	g.before = slices.Clone(g.memory)
	g.list = g.memory[2 : 2+len(rows)]
	return g
}

func (g rowsGuard) isUnchanged() bool {
	for i, row := range g.rows {
		if !row.isUnchanged() || len(g.memory[i]) != len(g.before[i]) {
			return false
		}
		if len(g.memory[i]) > 0 && &g.memory[i][0] != &g.before[i][0] {
			return false
		}
	}
	return true
}

// rowCalls returns the functions of chapter 6 that take rows, as calls with factors
// that they may use.
func rowCalls() map[string]func(rows [][]int, v []int) (any, bool) {
	return map[string]func(rows [][]int, v []int) (any, bool){
		"DeterminantOf": func(rows [][]int, v []int) (any, bool) { return pack(impl.DeterminantOf(rows)) },
		"RankOf":        func(rows [][]int, v []int) (any, bool) { return pack(impl.RankOf(rows)) },
		"DependentRow":  func(rows [][]int, v []int) (any, bool) { return pack(impl.DependentRow(rows)) },
		"ApplyTable":    func(rows [][]int, v []int) (any, bool) { return pack(impl.ApplyTable(rows, v)) },
	}
}

// tableCalls returns the functions of chapter 6 that take numbers alone.
func tableCalls() map[string]func(i, j int) (any, bool) {
	return map[string]func(i, j int) (any, bool){
		"TableAt":            func(i, j int) (any, bool) { return pack(impl.TableAt(i, j)) },
		"ExponentTable":      func(i, j int) (any, bool) { return pack(impl.ExponentTable(i)) },
		"ValueAt":            func(i, j int) (any, bool) { return pack(impl.ValueAt(i, j)) },
		"ExponentOf":         func(i, j int) (any, bool) { return pack(impl.ExponentOf(i, j)) },
		"ProductDeterminant": func(i, j int) (any, bool) { return pack(impl.ProductDeterminant(i, j)) },
		"SumOfTable":         func(i, j int) (any, bool) { return pack(impl.SumOfTable(i, j)) },
	}
}

// joined is the result of JoinedSystem.
type joined struct {
	System []int
	Joined int
}

func joinedCall(p []int, i int) (any, bool) {
	system, is, ok := impl.JoinedSystem(p, i)
	return joined{system, is}, ok
}

// someRows are rows of each size, and rows that may not be asked for.
func someRows() [][][]int {
	all := [][][]int{nil}
	for size := 1; size <= 14; size++ {
		all = append(all, sameNumbers(size, 0), diagonalOf(size, 2), scattered(size, 16, size), depending(size, size))
	}
	for _, number := range []int{1, -1, 100_000_000_000_000_000, 100_000_000_000_000_001} {
		all = append(all, rowsWithDeterminant(number))
	}
	for _, rows := range wildRows() {
		all = append(all, rows)
	}
	return all
}

func TestPromise11RowsAreNotChanged(t *testing.T) {
	for _, rows := range someRows() {
		for _, v := range [][]int{nil, {7}, {1001}, scattered(14, 1000, 1)[0][:min(14, len(rows))], make([]int, len(rows)+1)} {
			for name, call := range rowCalls() {
				g, factors := newRowsGuard(rows), newGuard(v)
				checkCall(t, name, func() (any, bool) { return call(g.list, factors.list) })
				if !g.isUnchanged() || !factors.isUnchanged() {
					t.Fatalf("%s changes its arguments %v and %v", name, rows, v)
				}
			}
		}
	}
}

// TestPromise11RowsThatAreOne has rows that share their memory, which a caller may
// ask for, too.
func TestPromise11RowsThatAreOne(t *testing.T) {
	row := []int{1, 2, 3}
	g := newGuard(row)
	rows := [][]int{g.list, g.list, g.list}
	for name, call := range rowCalls() {
		checkCall(t, name, func() (any, bool) { return call(rows, g.list) })
		if !g.isUnchanged() {
			t.Fatalf("%s changes a row that it is given thrice", name)
		}
	}
	if k, ok := impl.DependentRow(rows); !ok || k != 1 {
		t.Error("the same row thrice depends at", k, ok)
	}
	if sums, ok := impl.ApplyTable(rows, g.list); !ok || !sameList(sums, []int{14, 14, 14}) {
		t.Error("the same row thrice, times itself", sums, ok)
	}
}

func TestPromise11TableNumbers(t *testing.T) {
	for _, i := range numbersAround() {
		for _, j := range numbersAround() {
			for name, call := range tableCalls() {
				checkCall(t, name, func() (any, bool) { return call(i, j) })
			}
			for name, call := range rowCalls() {
				for _, rows := range [][][]int{{{i}}, {{i, j}, {j, i}}, withNumber(diagonalOf(6, j), 5, 0, i), withNumber(diagonalOf(14, 1), 3, 4, i)} {
					result, ok := call(rows, []int{j, i})
					if !areRowsByWords(rows) {
						mustNotSucceed(t, name+" of what are no rows", ok, result)
					}
				}
			}
		}
	}
}

func TestPromise11JoinedSystemsAreNotChanged(t *testing.T) {
	lists := append(systemsUpTo(4), nil, systemsByWords(5)[40], systemsByWords(6)[0], systemsByWords(6)[131])
	for _, p := range wildLists() {
		lists = append(lists, p)
	}
	for _, p := range lists {
		g := newGuard(p)
		for _, i := range numbersAround() {
			checkCall(t, "JoinedSystem", func() (any, bool) { return joinedCall(g.list, i) })
			if !g.isUnchanged() {
				t.Fatalf("JoinedSystem at %d changes its argument %v", i, p)
			}
		}
	}
}
