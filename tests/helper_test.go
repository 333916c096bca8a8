package tests

import (
	"math"
	"reflect"
	"slices"
	"testing"

	"loop.example/g01126/impl"
)

const sentinel = -987654321

// guard holds a list that has memory in front of it and behind its length, so
// that a write to either, or to the list itself, is seen afterwards.
type guard struct {
	memory []int
	before []int
	list   []int
}

func newGuard(p []int) guard {
	if p == nil {
		return guard{}
	}
	memory := make([]int, len(p)+8)
	for i := range memory {
		memory[i] = sentinel
	}
	copy(memory[4:], p)
	return guard{memory: memory, before: slices.Clone(memory), list: memory[4 : 4+len(p)]}
}

func (g guard) isUnchanged() bool {
	return slices.Equal(g.memory, g.before)
}

// pairGuard guards both lists of a pair.
type pairGuard struct {
	top    guard
	bottom guard
}

func newPairGuard(m impl.Meander) pairGuard {
	return pairGuard{newGuard(m.Top), newGuard(m.Bottom)}
}

func (g pairGuard) pair() impl.Meander {
	return impl.Meander{Top: g.top.list, Bottom: g.bottom.list}
}

func (g pairGuard) isUnchanged() bool {
	return g.top.isUnchanged() && g.bottom.isUnchanged()
}

// sameList holds nil and empty lists to be the same value, as the document does.
func sameList(a, b []int) bool {
	return slices.Equal(a, b)
}

func sameLists(a, b [][]int) bool {
	return slices.EqualFunc(a, b, sameList)
}

// sameResult holds nil and empty lists to be the same value, wherever they are
// in a result.
func sameResult(a, b any) bool {
	return sameValue(reflect.ValueOf(a), reflect.ValueOf(b))
}

func sameValue(a, b reflect.Value) bool {
	if a.Type() != b.Type() {
		return false
	}
	switch a.Kind() {
	case reflect.Slice:
		if a.Len() != b.Len() {
			return false
		}
		for i := range a.Len() {
			if !sameValue(a.Index(i), b.Index(i)) {
				return false
			}
		}
		return true
	case reflect.Struct:
		for i := range a.NumField() {
			if !sameValue(a.Field(i), b.Field(i)) {
				return false
			}
		}
		return true
	}
	return a.Equal(b)
}

func isZeroResult(a any) bool {
	return isZeroValue(reflect.ValueOf(a))
}

func isZeroValue(v reflect.Value) bool {
	switch v.Kind() {
	case reflect.Slice:
		return v.Len() == 0
	case reflect.Struct:
		for i := range v.NumField() {
			if !isZeroValue(v.Field(i)) {
				return false
			}
		}
		return true
	}
	return v.IsZero()
}

// copyResult returns a result that shares no memory with the given one.
func copyResult(a any) any {
	return copyValue(reflect.ValueOf(a)).Interface()
}

func copyValue(v reflect.Value) reflect.Value {
	kept := reflect.New(v.Type()).Elem()
	switch v.Kind() {
	case reflect.Slice:
		for i := range v.Len() {
			kept = reflect.Append(kept, copyValue(v.Index(i)))
		}
	case reflect.Struct:
		for i := range v.NumField() {
			kept.Field(i).Set(copyValue(v.Field(i)))
		}
	default:
		kept.Set(v)
	}
	return kept
}

func spoil(p []int) {
	p = p[:cap(p)]
	for i := range p {
		p[i] = sentinel
	}
}

// listsIn returns the lists of numbers of a result, wherever they are in it.
func listsIn(v reflect.Value) [][]int {
	if p, ok := v.Interface().([]int); ok {
		return [][]int{p}
	}
	var lists [][]int
	switch v.Kind() {
	case reflect.Slice:
		for i := range v.Len() {
			lists = append(lists, listsIn(v.Index(i))...)
		}
	case reflect.Struct:
		for i := range v.NumField() {
			lists = append(lists, listsIn(v.Field(i))...)
		}
	}
	return lists
}

// spoilResult overwrites all memory of a result, list by list; it reports whether
// each list was still whole when its turn came, so that no two share memory.
func spoilResult(a any) bool {
	lists := listsIn(reflect.ValueOf(a))
	kept := copyResult(lists).([][]int)
	for i := range lists {
		if !sameList(lists[i], kept[i]) {
			return false
		}
		spoil(lists[i])
	}
	return true
}

// wildNumbers are arguments around each limit and far away from all of them.
func wildNumbers() []int {
	return []int{math.MinInt, math.MinInt + 1, -101, -100, -7, -1, 0, 1, 2, 3, 4, 5, 6, 7, 8, 10, 11, 12, 13, 14, 41, 42, 99, 100, 101, 131, 132, 1 << 40, math.MaxInt - 1, math.MaxInt}
}

// wildLists are lists that are no arch systems, for one reason each.
func wildLists() map[string][]int {
	long := make([]int, 100000)
	for i := range long {
		long[i] = i ^ 1
	}
	return map[string][]int{
		"one point":        {0},
		"odd":              {1, 0, 2},
		"odd and too long": {1, 0, 3, 2, 5, 4, 7, 6, 9, 8, 11, 10, 12},
		"with itself":      {0, 1},
		"crossing":         {2, 3, 0, 1},
		"crossing inside":  {7, 3, 4, 1, 2, 6, 5, 0},
		"not back":         {1, 2, 3, 0},
		"two to one":       {1, 0, 1, 0},
		"negative":         {-1, 0},
		"one too great":    {2, 0},
		"all zeros":        {0, 0, 0, 0},
		"great":            {math.MaxInt, math.MaxInt},
		"least":            {math.MinInt, math.MinInt},
		"rainbow of 7":     {13, 12, 11, 10, 9, 8, 7, 6, 5, 4, 3, 2, 1, 0},
		"flat of 7":        {1, 0, 3, 2, 5, 4, 7, 6, 9, 8, 11, 10, 13, 12},
		"very long":        long,
	}
}

func mustNotSucceed(t *testing.T, what string, ok bool, results ...any) {
	t.Helper()
	if ok {
		t.Errorf("%s: it succeeds with %v", what, results)
	}
	for _, r := range results {
		if !isZeroResult(r) {
			t.Errorf("%s: a failed call returns %v", what, r)
		}
	}
}

func pack[T any](result T, ok bool) (any, bool) {
	return result, ok
}

// checkCall makes a call twice: the first result is spoiled in between, so that
// memory that is shared or kept shows in the second one.
func checkCall(t *testing.T, name string, call func() (any, bool)) {
	t.Helper()
	first, ok := call()
	if !ok && !isZeroResult(first) {
		t.Fatalf("%s: a failed call returns %v", name, first)
	}
	kept := copyResult(first)
	if !spoilResult(first) {
		t.Fatalf("%s: two rows of its result share memory", name)
	}
	second, again := call()
	if again != ok || !sameResult(second, kept) {
		t.Fatalf("%s: %v is %v when asked again", name, kept, second)
	}
}
