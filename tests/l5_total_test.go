package tests

import (
	"testing"

	"loop.example/g01126/impl"
)

// wordCalls returns the functions of chapter 5 that require a word.
func wordCalls() map[string]func(w []int) (any, bool) {
	return map[string]func(w []int) (any, bool){
		"FromPermutation":   func(w []int) (any, bool) { return pack(impl.FromPermutation(w)) },
		"CrossingOf":        func(w []int) (any, bool) { return pack(impl.CrossingOf(w)) },
		"InverseOf":         func(w []int) (any, bool) { return pack(impl.InverseOf(w)) },
		"BackwardsOf":       func(w []int) (any, bool) { return pack(impl.BackwardsOf(w)) },
		"MirrorPermutation": func(w []int) (any, bool) { return pack(impl.MirrorPermutation(w)) },
		"OpenToClosed":      func(w []int) (any, bool) { return pack(impl.OpenToClosed(w)) },
		"PositionsOf":       func(w []int) (any, bool) { return pack(impl.PositionsOf(w)) },
	}
}

// anyListCalls returns the functions of chapter 5 that take lists of any numbers.
func anyListCalls() map[string]func(w []int) (any, bool) {
	return map[string]func(w []int) (any, bool){
		"IsPermutation":     func(w []int) (any, bool) { return pack(impl.IsPermutation(w)) },
		"IsOpenPermutation": func(w []int) (any, bool) { return pack(impl.IsOpenPermutation(w)) },
	}
}

// curveCalls returns the functions of chapter 5 that take a meander.
func curveCalls() map[string]func(m impl.Meander) (any, bool) {
	return map[string]func(m impl.Meander) (any, bool){
		"PermutationOf": func(m impl.Meander) (any, bool) { return pack(impl.PermutationOf(m)) },
		"CycleOf":       func(m impl.Meander) (any, bool) { return pack(impl.CycleOf(m)) },
		"ClosedToOpen":  func(m impl.Meander) (any, bool) { return pack(impl.ClosedToOpen(m)) },
	}
}

func TestPromise11WordsAreNotChanged(t *testing.T) {
	lists := wordsUpTo(5)
	for n, words := range closedWords() {
		for _, closed := range words[:min(len(words), 20*n)] {
			lists = append(lists, closed.word, closed.word[:len(closed.word)-1])
		}
	}
	lists = append(lists, []int{11, 0, 10, 1, 9, 2, 8, 3, 7, 4, 6, 5}, nil)
	for _, w := range wildWords() {
		lists = append(lists, w)
	}
	for _, w := range lists {
		g := newGuard(w)
		for _, calls := range []map[string]func(w []int) (any, bool){wordCalls(), anyListCalls()} {
			for name, call := range calls {
				checkCall(t, name, func() (any, bool) { return call(g.list) })
				if !g.isUnchanged() {
					t.Fatalf("%s changes its argument %v", name, w)
				}
			}
		}
	}
}

func TestPromise11MeandersAreNotChanged(t *testing.T) {
	pairs := pairsUpTo(4)
	for _, closed := range closedWords()[6][:100] {
		pairs = append(pairs, closed.meander)
	}
	for _, m := range wildPairs() {
		pairs = append(pairs, m)
	}
	for _, m := range pairs {
		g := newPairGuard(m)
		for name, call := range curveCalls() {
			checkCall(t, name, func() (any, bool) { return call(g.pair()) })
			if !g.isUnchanged() {
				t.Fatalf("%s changes its argument %v", name, m)
			}
		}
	}
}

func TestPromise11PointNumbers(t *testing.T) {
	for _, i := range wildNumbers() {
		checkCall(t, "OpenPermutations", func() (any, bool) { return pack(impl.OpenPermutations(i)) })
		checkCall(t, "CountOpen", func() (any, bool) { return pack(impl.CountOpen(i)) })
		for _, w := range [][]int{{i}, {0, i}, {i, 0}, {i, i, i}, {0, i, 2, 1}, {0, 1, 2, 3, 4, 5, 6, 7, 8, 9, 10, i}} {
			for name, call := range wordCalls() {
				result, ok := call(w)
				if !isWordByWords(w) {
					mustNotSucceed(t, name+" of what is no word", ok, result)
				}
			}
			checkAnyList(t, w)
		}
		for name, call := range curveCalls() {
			for _, m := range []impl.Meander{{Top: []int{i}}, {Top: []int{1, i}, Bottom: []int{1, 0}}, {Top: []int{1, 0}, Bottom: []int{i, i}}} {
				result, ok := call(m)
				if !isPairByWords(m) {
					mustNotSucceed(t, name+" of what is no pair", ok, result)
				}
			}
		}
	}
}

func TestPromise11NoWords(t *testing.T) {
	for what, w := range wildWords() {
		for name, call := range wordCalls() {
			result, ok := call(w)
			mustNotSucceed(t, name+" of what is "+what, ok, result)
		}
	}
	for what, m := range wildPairs() {
		for name, call := range curveCalls() {
			result, ok := call(m)
			mustNotSucceed(t, name+" of what is "+what, ok, result)
		}
	}
}
