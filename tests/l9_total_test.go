package tests

import (
	"slices"
	"testing"

	"loop.example/g01126/impl"
)

// faceCalls returns the functions of chapter 9 that take a system, as calls with two
// numbers that they may use.
func faceCalls() map[string]func(p []int, i, j int) (any, bool) {
	return map[string]func(p []int, i, j int) (any, bool){
		"FacesOf":        func(p []int, i, j int) (any, bool) { return pack(impl.FacesOf(p)) },
		"ExchangeAt":     func(p []int, i, j int) (any, bool) { return pack(impl.ExchangeAt(p, i, j)) },
		"ExchangesOf":    func(p []int, i, j int) (any, bool) { return pack(impl.ExchangesOf(p)) },
		"CountExchanges": func(p []int, i, j int) (any, bool) { return pack(impl.CountExchanges(p)) },
		"FarthestFrom":   func(p []int, i, j int) (any, bool) { return pack(impl.FarthestFrom(p)) },
	}
}

// distanceCalls returns the functions of chapter 9 that take two systems.
func distanceCalls() map[string]func(a, b []int) (any, bool) {
	return map[string]func(a, b []int) (any, bool){
		"ExchangeDistance": func(a, b []int) (any, bool) { return pack(impl.ExchangeDistance(a, b)) },
		"ExchangePath":     func(a, b []int) (any, bool) { return pack(impl.ExchangePath(a, b)) },
		"CountShortest":    func(a, b []int) (any, bool) { return pack(impl.CountShortest(a, b)) },
		"BetweenSystems":   func(a, b []int) (any, bool) { return pack(impl.BetweenSystems(a, b)) },
	}
}

// mergeCalls returns the functions of chapter 9 that take a pair.
func mergeCalls() map[string]func(m impl.Meander) (any, bool) {
	return map[string]func(m impl.Meander) (any, bool){
		"MergeDistance": func(m impl.Meander) (any, bool) { return pack(impl.MergeDistance(m)) },
		"MergePath":     func(m impl.Meander) (any, bool) { return pack(impl.MergePath(m)) },
		"SplitPath":     func(m impl.Meander) (any, bool) { return pack(impl.SplitPath(m)) },
	}
}

func TestPromise11ExchangesChangeNothing(t *testing.T) {
	lists := append(systemsUpTo(5), []int{}, systemsByWords(6)[0], systemsByWords(6)[77], systemsByWords(6)[131])
	for _, p := range wildLists() {
		lists = append(lists, p)
	}
	for _, p := range lists {
		g := newGuard(p)
		for name, call := range faceCalls() {
			for _, at := range [][2]int{{0, 1}, {0, 2}, {0, 4}, {1, 3}, {2, 0}, {-1, 0}, {0, len(p)}} {
				checkCall(t, name, func() (any, bool) { return call(g.list, at[0], at[1]) })
			}
			if !g.isUnchanged() {
				t.Fatalf("%s changes its argument %v", name, p)
			}
		}
	}
}

func TestPromise11PathsChangeNothing(t *testing.T) {
	for _, m := range pairsToGuard() {
		g := newPairGuard(m)
		for name, call := range mergeCalls() {
			checkCall(t, name, func() (any, bool) { return call(g.pair()) })
			if !g.isUnchanged() {
				t.Fatalf("%s changes its argument %v", name, m)
			}
		}
		for name, call := range distanceCalls() {
			checkCall(t, name, func() (any, bool) { return call(g.top.list, g.bottom.list) })
			if !g.isUnchanged() {
				t.Fatalf("%s changes its arguments %v", name, m)
			}
		}
	}
}

// TestPromise11ExchangesOfOneList has both systems in the same memory.
func TestPromise11ExchangesOfOneList(t *testing.T) {
	for _, p := range append(systemsUpTo(4), systemsByWords(6)[77], []int{2, 3, 0, 1}, []int{0}) {
		g := newGuard(p)
		for name, call := range distanceCalls() {
			checkCall(t, name, func() (any, bool) { return call(g.list, g.list) })
		}
		for name, call := range mergeCalls() {
			checkCall(t, name, func() (any, bool) { return call(impl.Meander{Top: g.list, Bottom: g.list}) })
		}
		if !g.isUnchanged() {
			t.Fatalf("a function changes %v", p)
		}
	}
}

func TestPromise11ExchangeNumbers(t *testing.T) {
	lists := [][]int{nil, {0}, {1, 0}, {2, 3, 0, 1}, systemOfText("(()())"), systemOfText("()((()))(())"), systemOfText("()()()()()()")}
	for _, p := range lists {
		g := newGuard(p)
		for _, i := range wildNumbers() {
			for _, j := range wildNumbers() {
				checkCall(t, "ExchangeAt", func() (any, bool) { return pack(impl.ExchangeAt(g.list, i, j)) })
			}
		}
		if !g.isUnchanged() {
			t.Fatalf("ExchangeAt changes its argument %v", p)
		}
	}
}

func TestPromise11ExchangesOfNoSystems(t *testing.T) {
	for what, p := range wildLists() {
		for name, call := range faceCalls() {
			for _, at := range [][2]int{{0, 1}, {0, 2}, {1, 2}} {
				result, ok := call(p, at[0], at[1])
				mustNotSucceed(t, name+" of what is "+what, ok, result)
			}
		}
	}
	for what, m := range wildPairs() {
		for name, call := range distanceCalls() {
			result, ok := call(m.Top, m.Bottom)
			mustNotSucceed(t, name+" of what is "+what, ok, result)
			result, ok = call(m.Bottom, m.Top)
			mustNotSucceed(t, name+" of what is, when exchanged, "+what, ok, result)
		}
		for name, call := range mergeCalls() {
			result, ok := call(m)
			mustNotSucceed(t, name+" of what is "+what, ok, result)
			result, ok = call(impl.Meander{Top: m.Bottom, Bottom: m.Top})
			mustNotSucceed(t, name+" of what is, when exchanged, "+what, ok, result)
		}
	}
}

// TestPromise11ExchangeResultsAreNew has paths that begin with their arguments, and
// pairs on them that have the same systems below.
func TestPromise11ExchangeResultsAreNew(t *testing.T) {
	for _, text := range []string{"()|()", "(())|()()", "(()())|(()())", "()(())|(())()", "()()()()()|((((()))))"} {
		m := pairOfText(text)
		kept := copyResult(m)
		path, _ := impl.ExchangePath(m.Top, m.Bottom)
		between, _ := impl.BetweenSystems(m.Top, m.Bottom)
		farthest, _ := impl.FarthestFrom(m.Top)
		merging, _ := impl.MergePath(m)
		splitting, _ := impl.SplitPath(m)
		if len(path) == 0 || len(between) == 0 || len(farthest) == 0 || len(merging) == 0 || len(splitting) == 0 {
			t.Fatalf("a result of %s has nothing", text)
		}
		lists := slices.Concat(path, between, farthest)
		pairs := slices.Concat(merging, splitting)
		if !spoilResult(lists) || !spoilResult(pairs) || !sameResult(m, kept) {
			t.Fatalf("a result shares memory with %s or with another one", text)
		}
	}
}
