package tests

import (
	"math"
	"reflect"
	"slices"
	"testing"
)

const sentinel = -987654321

// guard holds a list that has memory in front of it and behind its length, so
// that a write to either, or to the list itself, is seen afterwards.
type guard struct {
	memory []int
	before []int
	list   []int
}

func newGuard(p []int) guard {
	if p == nil {
		return guard{}
	}
	memory := make([]int, len(p)+8)
	for i := range memory {
		memory[i] = sentinel
	}
	copy(memory[4:], p)
	return guard{memory: memory, before: slices.Clone(memory), list: memory[4 : 4+len(p)]}
}

func (g guard) isUnchanged() bool {
	return slices.Equal(g.memory, g.before)
}

// sameList holds nil and empty lists to be the same value, as the document does.
func sameList(a, b []int) bool {
	return slices.Equal(a, b)
}

func sameLists(a, b [][]int) bool {
	return slices.EqualFunc(a, b, sameList)
}

func sameResult(a, b any) bool {
	switch x := a.(type) {
	case []int:
		y, ok := b.([]int)
		return ok && sameList(x, y)
	case [][]int:
		y, ok := b.([][]int)
		return ok && sameLists(x, y)
	}
	return reflect.DeepEqual(a, b)
}

func isZeroResult(a any) bool {
	v := reflect.ValueOf(a)
	if v.Kind() == reflect.Slice {
		return v.Len() == 0
	}
	return v.IsZero()
}

// copyResult returns a result that shares no memory with the given one.
func copyResult(a any) any {
	switch x := a.(type) {
	case []int:
		return slices.Clone(x)
	case [][]int:
		rows := make([][]int, len(x))
		for i := range x {
			rows[i] = slices.Clone(x[i])
		}
		return rows
	}
	return a
}

func spoil(p []int) {
	p = p[:cap(p)]
	for i := range p {
		p[i] = sentinel
	}
}

// spoilResult overwrites all memory of a result, row by row; it reports whether
// each row was still whole when its turn came, so that no two rows share memory.
func spoilResult(a any) bool {
	switch x := a.(type) {
	case []int:
		spoil(x)
	case [][]int:
		kept := copyResult(x).([][]int)
		for i := range x {
			if !sameList(x[i], kept[i]) {
				return false
			}
			spoil(x[i])
		}
	}
	return true
}

// wildNumbers are arguments around each limit and far away from all of them.
func wildNumbers() []int {
	return []int{math.MinInt, math.MinInt + 1, -101, -100, -7, -1, 0, 1, 2, 3, 4, 5, 6, 7, 8, 10, 11, 12, 13, 14, 41, 42, 99, 100, 101, 131, 132, 1 << 40, math.MaxInt - 1, math.MaxInt}
}

// wildLists are lists that are no arch systems, for one reason each.
func wildLists() map[string][]int {
	long := make([]int, 100000)
	for i := range long {
		long[i] = i ^ 1
	}
	return map[string][]int{
		"one point":        {0},
		"odd":              {1, 0, 2},
		"odd and too long": {1, 0, 3, 2, 5, 4, 7, 6, 9, 8, 11, 10, 12},
		"with itself":      {0, 1},
		"crossing":         {2, 3, 0, 1},
		"crossing inside":  {7, 3, 4, 1, 2, 6, 5, 0},
		"not back":         {1, 2, 3, 0},
		"two to one":       {1, 0, 1, 0},
		"negative":         {-1, 0},
		"one too great":    {2, 0},
		"all zeros":        {0, 0, 0, 0},
		"great":            {math.MaxInt, math.MaxInt},
		"least":            {math.MinInt, math.MinInt},
		"rainbow of 7":     {13, 12, 11, 10, 9, 8, 7, 6, 5, 4, 3, 2, 1, 0},
		"flat of 7":        {1, 0, 3, 2, 5, 4, 7, 6, 9, 8, 11, 10, 13, 12},
		"very long":        long,
	}
}

func mustNotSucceed(t *testing.T, what string, ok bool, results ...any) {
	t.Helper()
	if ok {
		t.Errorf("%s: it succeeds with %v", what, results)
	}
	for _, r := range results {
		if !isZeroResult(r) {
			t.Errorf("%s: a failed call returns %v", what, r)
		}
	}
}
