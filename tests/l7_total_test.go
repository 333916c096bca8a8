package tests

import (
	"slices"
	"strings"
	"testing"

	"loop.example/g01126/impl"
)

// newSeaweedGuard guards both lists of a seaweed.
func newSeaweedGuard(s impl.Seaweed) pairGuard {
	return newPairGuard(impl.Meander(s))
}

func (g pairGuard) seaweed() impl.Seaweed {
	return impl.Seaweed(g.pair())
}

// counted is the result of CountBoth and of CountByWinding.
type counted struct {
	Paths  int
	Cycles int
}

func countCall(count func(impl.Seaweed) (int, int, bool), s impl.Seaweed) (any, bool) {
	paths, cycles, ok := count(s)
	return counted{paths, cycles}, ok
}

// wound is the result of WindStep.
type wound struct {
	Behind impl.Seaweed
	Letter string
}

func stepCall(s impl.Seaweed) (any, bool) {
	behind, letter, ok := impl.WindStep(s)
	return wound{behind, letter}, ok
}

// seaweedCalls returns the functions of chapter 7 that require a seaweed, as calls
// with a second one that they may use.
func seaweedCalls() map[string]func(s, b impl.Seaweed) (any, bool) {
	return map[string]func(s, b impl.Seaweed) (any, bool){
		"IsSeaweed":      func(s, b impl.Seaweed) (any, bool) { return impl.IsSeaweed(s), impl.IsSeaweed(s) },
		"PathsOf":        func(s, b impl.Seaweed) (any, bool) { return pack(impl.PathsOf(s)) },
		"CyclesOf":       func(s, b impl.Seaweed) (any, bool) { return pack(impl.CyclesOf(s)) },
		"CountBoth":      func(s, b impl.Seaweed) (any, bool) { return countCall(impl.CountBoth, s) },
		"IndexOf":        func(s, b impl.Seaweed) (any, bool) { return pack(impl.IndexOf(s)) },
		"WindStep":       func(s, b impl.Seaweed) (any, bool) { return stepCall(s) },
		"WindWord":       func(s, b impl.Seaweed) (any, bool) { return pack(impl.WindWord(s)) },
		"WindRun":        func(s, b impl.Seaweed) (any, bool) { return pack(impl.WindRun(s)) },
		"CountByWinding": func(s, b impl.Seaweed) (any, bool) { return countCall(impl.CountByWinding, s) },
		"FlipSeaweed":    func(s, b impl.Seaweed) (any, bool) { return pack(impl.FlipSeaweed(s)) },
		"MirrorSeaweed":  func(s, b impl.Seaweed) (any, bool) { return pack(impl.MirrorSeaweed(s)) },
		"JoinSeaweeds":   func(s, b impl.Seaweed) (any, bool) { return pack(impl.JoinSeaweeds(s, b)) },
		"SeaweedText":    func(s, b impl.Seaweed) (any, bool) { return pack(impl.SeaweedText(s)) },
	}
}

// fewPartsCalls returns the functions of chapter 7 that take numbers alone.
func fewPartsCalls() map[string]func(a, b, c int) (any, bool) {
	return map[string]func(a, b, c int) (any, bool){
		"IndexOfTwo":   func(a, b, c int) (any, bool) { return pack(impl.IndexOfTwo(a, b)) },
		"IndexOfThree": func(a, b, c int) (any, bool) { return pack(impl.IndexOfThree(a, b, c)) },
		"CountByIndex": func(a, b, c int) (any, bool) { return pack(impl.CountByIndex(a)) },
	}
}

func TestPromise11SeaweedsAreNotChanged(t *testing.T) {
	all := append(seaweedsUpTo(4), seaweedsByWords(5)[:60]...)
	for sum := 6; sum <= 20; sum++ {
		for seed := range 6 {
			all = append(all, scatteredSeaweed(sum, seed))
		}
	}
	for _, s := range wildSeaweeds() {
		all = append(all, s)
	}
	others := []impl.Seaweed{{}, {Top: []int{1, 2}, Bottom: []int{3}}, {Top: []int{20}, Bottom: []int{20}}, {Top: []int{21}, Bottom: []int{21}}}
	for _, s := range all {
		for _, b := range append(others, s) {
			first, second := newSeaweedGuard(s), newSeaweedGuard(b)
			for name, call := range seaweedCalls() {
				checkCall(t, name, func() (any, bool) { return call(first.seaweed(), second.seaweed()) })
				checkCall(t, name, func() (any, bool) { return call(second.seaweed(), first.seaweed()) })
				if !first.isUnchanged() || !second.isUnchanged() {
					t.Fatalf("%s changes its arguments %v and %v", name, s, b)
				}
			}
		}
	}
}

// TestPromise11SeaweedsThatAreOne has both lists of a seaweed in the same memory,
// and the same seaweed twice.
func TestPromise11SeaweedsThatAreOne(t *testing.T) {
	for _, parts := range [][]int{nil, {1}, {4}, {3, 1, 2}, {1, 1, 1}, {0}, {10, 11}} {
		g := newGuard(parts)
		s := impl.Seaweed{Top: g.list, Bottom: g.list}
		for name, call := range seaweedCalls() {
			checkCall(t, name, func() (any, bool) { return call(s, s) })
			if !g.isUnchanged() {
				t.Fatalf("%s changes %v", name, parts)
			}
		}
	}
}

func TestPromise11PartsAreNotChanged(t *testing.T) {
	lists := append(wildPartLists(), nil)
	for sum := range 8 {
		lists = append(lists, partsByWords(sum)...)
	}
	for _, parts := range wildParts() {
		lists = append(lists, parts)
	}
	for _, parts := range lists {
		g := newGuard(parts)
		checkCall(t, "ArcsOf", func() (any, bool) { return pack(impl.ArcsOf(g.list)) })
		if !g.isUnchanged() {
			t.Fatalf("ArcsOf changes its argument %v", parts)
		}
	}
}

func TestPromise11PartNumbers(t *testing.T) {
	numbers := append(wildNumbers(), 19, 20, 21)
	for _, i := range numbers {
		for _, j := range numbers {
			for name, call := range fewPartsCalls() {
				for _, k := range []int{i, j, 1} {
					checkCall(t, name, func() (any, bool) { return call(i, j, k) })
				}
			}
			for _, s := range []impl.Seaweed{{Top: []int{i}, Bottom: []int{j}}, {Top: []int{i, j}, Bottom: []int{j, i}}, {Top: []int{1, i, j}, Bottom: []int{3}}} {
				for name, call := range seaweedCalls() {
					result, ok := call(s, impl.Seaweed{})
					if !isSeaweedByWords(s) {
						mustNotSucceed(t, name+" of what is no seaweed", ok, result)
					}
				}
			}
		}
	}
}

func TestPromise11NoSeaweeds(t *testing.T) {
	for what, s := range wildSeaweeds() {
		for name, call := range seaweedCalls() {
			result, ok := call(s, impl.Seaweed{})
			mustNotSucceed(t, name+" of what is "+what, ok, result)
		}
	}
}

func TestPromise11SeaweedTexts(t *testing.T) {
	texts := append(noSeaweedTexts(), "-|-", "1|1", "2+1|3", "20|10+10", strings.Repeat("1+", 1<<18)+"1|1", strings.Repeat("1", 1<<20)+"|1", strings.Repeat("|", 1<<20), strings.Repeat("+", 1<<20)+"|"+strings.Repeat("-", 1<<20))
	for _, text := range slices.Compact(texts) {
		checkCall(t, "ParseSeaweed", func() (any, bool) { return pack(impl.ParseSeaweed(text)) })
	}
}
