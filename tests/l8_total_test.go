package tests

import (
	"slices"
	"testing"

	"loop.example/g01126/impl"
)

// ends is the result of ShortestClosed.
type ends struct {
	First int
	Last  int
}

func shortestCall(m impl.Meander) (any, bool) {
	i, j, ok := impl.ShortestClosed(m)
	return ends{i, j}, ok
}

// stretchCalls returns the functions of chapter 8 that take a pair and points of it.
func stretchCalls() map[string]func(m impl.Meander, i, j int) (any, bool) {
	return map[string]func(m impl.Meander, i, j int) (any, bool){
		"IsClosed":  func(m impl.Meander, i, j int) (any, bool) { return pack(impl.IsClosed(m, i, j)) },
		"InsideOf":  func(m impl.Meander, i, j int) (any, bool) { return pack(impl.InsideOf(m, i, j)) },
		"OutsideOf": func(m impl.Meander, i, j int) (any, bool) { return pack(impl.OutsideOf(m, i, j)) },
	}
}

// cutCalls returns the functions of chapter 8 that take a pair alone.
func cutCalls() map[string]func(m impl.Meander) (any, bool) {
	return map[string]func(m impl.Meander) (any, bool){
		"ClosedStretches": func(m impl.Meander) (any, bool) { return pack(impl.ClosedStretches(m)) },
		"ShortestClosed":  shortestCall,
		"IsWhole":         func(m impl.Meander) (any, bool) { return pack(impl.IsWhole(m)) },
		"PiecesOf":        func(m impl.Meander) (any, bool) { return pack(impl.PiecesOf(m)) },
		"PiecesBack":      func(m impl.Meander) (any, bool) { return pack(impl.PiecesBack(m)) },
		"PieceTexts":      func(m impl.Meander) (any, bool) { return pack(impl.PieceTexts(m)) },
		"IsSimple":        func(m impl.Meander) (any, bool) { return pack(impl.IsSimple(m)) },
	}
}

// wholeCalls returns the functions of chapter 8 that take numbers alone.
func wholeCalls() map[string]func(n int) (any, bool) {
	return map[string]func(n int) (any, bool){
		"AllWhole":      func(n int) (any, bool) { return pack(impl.AllWhole(n)) },
		"CountWhole":    func(n int) (any, bool) { return pack(impl.CountWhole(n)) },
		"CountByPieces": func(n int) (any, bool) { return pack(impl.CountByPieces(n)) },
		"CountSimple":   func(n int) (any, bool) { return pack(impl.CountSimple(n)) },
	}
}

// pairsToGuard are valid pairs of all sizes, and what are none.
func pairsToGuard() []impl.Meander {
	all := append(pairsUpTo(3), emptyPairs()...)
	for k, m := range pairsToCut() {
		if k%53 == 0 {
			all = append(all, m)
		}
	}
	for _, m := range wildPairs() {
		all = append(all, m)
	}
	return all
}

func TestPromise11CutsChangeNothing(t *testing.T) {
	for _, m := range pairsToGuard() {
		g := newPairGuard(m)
		for name, call := range cutCalls() {
			checkCall(t, name, func() (any, bool) { return call(g.pair()) })
			if !g.isUnchanged() {
				t.Fatalf("%s changes its argument %v", name, m)
			}
		}
		last := len(m.Top) - 1
		for _, s := range [][2]int{{0, 1}, {1, 2}, {1, 4}, {0, last}, {last - 1, last}, {last, 0}, {-1, last}, {0, last + 1}} {
			for name, call := range stretchCalls() {
				checkCall(t, name, func() (any, bool) { return call(g.pair(), s[0], s[1]) })
				if !g.isUnchanged() {
					t.Fatalf("%s changes its argument %v", name, m)
				}
			}
		}
	}
}

func TestPromise11PairsPutIntoOthers(t *testing.T) {
	others := []impl.Meander{{}, pairOfText("()|()"), pairOfText("(())()|()()()"), pairOfText("(((((())))))|()()()()()()"), {Top: []int{2, 3, 0, 1}, Bottom: []int{1, 0, 3, 2}}}
	for _, m := range pairsToGuard() {
		for _, b := range append(others, m) {
			first, second := newPairGuard(m), newPairGuard(b)
			for _, at := range []int{-1, 0, 1, len(m.Top), len(m.Top) + 1} {
				checkCall(t, "InsertPair", func() (any, bool) { return pack(impl.InsertPair(first.pair(), at, second.pair())) })
				checkCall(t, "InsertPair", func() (any, bool) { return pack(impl.InsertPair(first.pair(), at, first.pair())) })
			}
			if !first.isUnchanged() || !second.isUnchanged() {
				t.Fatalf("InsertPair changes its arguments %v and %v", m, b)
			}
		}
	}
}

// TestPromise11CutsOfOneList has both systems of a pair in the same memory.
func TestPromise11CutsOfOneList(t *testing.T) {
	for _, p := range append(systemsUpTo(4), systemsByWords(6)[77], []int{2, 3, 0, 1}, []int{0}) {
		g := newGuard(p)
		m := impl.Meander{Top: g.list, Bottom: g.list}
		for name, call := range cutCalls() {
			checkCall(t, name, func() (any, bool) { return call(m) })
		}
		for name, call := range stretchCalls() {
			checkCall(t, name, func() (any, bool) { return call(m, 0, 1) })
			checkCall(t, name, func() (any, bool) { return call(m, 0, len(p)-1) })
		}
		checkCall(t, "InsertPair", func() (any, bool) { return pack(impl.InsertPair(m, 0, m)) })
		if !g.isUnchanged() {
			t.Fatalf("a function changes %v", p)
		}
	}
}

func TestPromise11CutNumbers(t *testing.T) {
	pairs := []impl.Meander{{}, pairOfText("()|()"), pairOfText("(()())|(()())"), pairOfText("()((()))(())|()(()())(())"), {Top: []int{2, 3, 0, 1}, Bottom: []int{1, 0, 3, 2}}}
	for _, i := range wildNumbers() {
		for name, call := range wholeCalls() {
			checkCall(t, name, func() (any, bool) { return call(i) })
		}
		for _, m := range pairs {
			checkCall(t, "InsertPair", func() (any, bool) { return pack(impl.InsertPair(m, i, pairs[1])) })
			for _, j := range wildNumbers() {
				for name, call := range stretchCalls() {
					checkCall(t, name, func() (any, bool) { return call(m, i, j) })
				}
			}
		}
	}
}

func TestPromise11CutsOfNoPairs(t *testing.T) {
	for what, m := range wildPairs() {
		for name, call := range cutCalls() {
			result, ok := call(m)
			mustNotSucceed(t, name+" of what is "+what, ok, result)
		}
		for name, call := range stretchCalls() {
			for _, s := range [][2]int{{0, 1}, {1, 2}, {0, max(len(m.Top), len(m.Bottom)) - 1}} {
				result, ok := call(m, s[0], s[1])
				mustNotSucceed(t, name+" of what is "+what, ok, result)
			}
		}
	}
}

// TestPromise11CutResultsAreNew has whole pairs and results that are all of them, but
// share no memory with them.
func TestPromise11CutResultsAreNew(t *testing.T) {
	for _, text := range []string{"()|()", "(())|()()", "()((()))|((()))()", "(()()()()())|()()()()()()"} {
		m := pairOfText(text)
		kept := copyResult(m)
		inside, _ := impl.InsideOf(m, 0, len(m.Top)-1)
		pieces, _ := impl.PiecesOf(m)
		back, _ := impl.PiecesBack(m)
		put, _ := impl.InsertPair(m, 0, impl.Meander{})
		into, _ := impl.InsertPair(impl.Meander{}, 0, m)
		results := slices.Concat([]impl.Meander{inside, put, into}, pieces, back)
		for _, result := range results {
			if !sameResult(result, kept) {
				t.Fatalf("a result that should be %s is %v", text, result)
			}
		}
		if !spoilResult(results) || !sameResult(m, kept) {
			t.Fatalf("a result shares memory with %s or with another one", text)
		}
	}
}
