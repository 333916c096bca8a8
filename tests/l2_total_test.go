package tests

import (
	"strings"
	"testing"

	"loop.example/g01126/impl"
)

// pairCalls returns the functions of chapter 2 that take a pair, as calls with
// two pairs and a number of which each one uses what it needs.
func pairCalls() map[string]func(m, b impl.Meander, i int) (any, bool) {
	return map[string]func(m, b impl.Meander, i int) (any, bool){
		"IsMeander":     func(m, b impl.Meander, i int) (any, bool) { return pack(impl.IsMeander(m)) },
		"ComponentsOf":  func(m, b impl.Meander, i int) (any, bool) { return pack(impl.ComponentsOf(m)) },
		"CurvesOf":      func(m, b impl.Meander, i int) (any, bool) { return pack(impl.CurvesOf(m)) },
		"CurveOfPoints": func(m, b impl.Meander, i int) (any, bool) { return pack(impl.CurveOfPoints(m)) },
		"WayFrom":       func(m, b impl.Meander, i int) (any, bool) { return pack(impl.WayFrom(m, i)) },
		"RankMeander":   func(m, b impl.Meander, i int) (any, bool) { return pack(impl.RankMeander(m)) },
		"FlipMeander":   func(m, b impl.Meander, i int) (any, bool) { return pack(impl.FlipMeander(m)) },
		"TurnMeander":   func(m, b impl.Meander, i int) (any, bool) { return pack(impl.TurnMeander(m, i)) },
		"MirrorMeander": func(m, b impl.Meander, i int) (any, bool) { return pack(impl.MirrorMeander(m)) },
		"JoinMeanders":  func(m, b impl.Meander, i int) (any, bool) { return pack(impl.JoinMeanders(m, b)) },
		"MeanderText":   func(m, b impl.Meander, i int) (any, bool) { return pack(impl.MeanderText(m)) },
	}
}

// closingCalls returns the functions of chapter 2 that take one system.
func closingCalls() map[string]func(p []int, k int) (any, bool) {
	return map[string]func(p []int, k int) (any, bool){
		"ClosingWith":  func(p []int, k int) (any, bool) { return pack(impl.ClosingWith(p)) },
		"CountClosing": func(p []int, k int) (any, bool) { return pack(impl.CountClosing(p, k)) },
		"SignOf":       func(p []int, k int) (any, bool) { return pack(impl.SignOf(p)) },
	}
}

// listCalls returns the functions of chapter 2 that take numbers alone.
func listCalls() map[string]func(n, rank int) (any, bool) {
	return map[string]func(n, rank int) (any, bool){
		"MeandersOf":        func(n, rank int) (any, bool) { return pack(impl.MeandersOf(n)) },
		"CountMeanders":     func(n, rank int) (any, bool) { return pack(impl.CountMeanders(n)) },
		"CountByComponents": func(n, rank int) (any, bool) { return pack(impl.CountByComponents(n)) },
		"MeanderWith":       func(n, rank int) (any, bool) { return pack(impl.MeanderWith(n, rank)) },
	}
}

func TestPromise11PairsAreNotChanged(t *testing.T) {
	pairs := append(pairsUpTo(3), pairsByWords(4)[100], pairsByWords(5)[1500], pairsByWords(6)[12345], pairsByWords(6)[0])
	for _, m := range wildPairs() {
		pairs = append(pairs, m)
	}
	seconds := []impl.Meander{{}, {Top: []int{3, 2, 1, 0}, Bottom: []int{1, 0, 3, 2}}, {Top: []int{2, 3, 0, 1}, Bottom: []int{1, 0}}}
	for _, m := range pairs {
		for _, other := range seconds {
			a, b := newPairGuard(m), newPairGuard(other)
			for name, call := range pairCalls() {
				checkCall(t, name, func() (any, bool) { return call(a.pair(), b.pair(), 1) })
				if !a.isUnchanged() || !b.isUnchanged() {
					t.Fatalf("%s changes its arguments %v and %v", name, m, other)
				}
			}
			if impl.IsPair(a.pair()) != isPairByWords(m) || !a.isUnchanged() {
				t.Fatalf("IsPair of %d points above is wrong or changes them", len(m.Top))
			}
		}
	}
	for _, p := range append(systemsUpTo(4), systemsByWords(6)[77]) {
		for name, call := range closingCalls() {
			g := newGuard(p)
			checkCall(t, name, func() (any, bool) { return call(g.list, 1) })
			if !g.isUnchanged() {
				t.Fatalf("%s changes its argument %v", name, p)
			}
		}
	}
}

func TestPromise11MeanderNumbers(t *testing.T) {
	pairs := []impl.Meander{{}, {Top: []int{3, 2, 1, 0}, Bottom: []int{1, 0, 3, 2}}, {Top: []int{2, 3, 0, 1}, Bottom: []int{1, 0, 3, 2}}, pairsByWords(6)[4321]}
	for _, i := range wildNumbers() {
		for _, m := range pairs {
			for name, call := range pairCalls() {
				checkCall(t, name, func() (any, bool) { return call(m, m, i) })
			}
			for name, call := range closingCalls() {
				checkCall(t, name, func() (any, bool) { return call(m.Top, i) })
			}
		}
		for _, rank := range wildNumbers() {
			for name, call := range listCalls() {
				checkCall(t, name, func() (any, bool) { return call(i, rank) })
			}
		}
	}
}

func TestPromise11NoPairs(t *testing.T) {
	for what, m := range wildPairs() {
		for name, call := range pairCalls() {
			result, ok := call(m, m, 0)
			mustNotSucceed(t, name+" of what is "+what, ok, result)
		}
	}
	for what, p := range wildLists() {
		for name, call := range closingCalls() {
			result, ok := call(p, 1)
			mustNotSucceed(t, name+" of what is "+what, ok, result)
		}
	}
}

func TestPromise11MeanderTexts(t *testing.T) {
	for _, s := range []string{"", "|", "()|()", "(())|()()", "()|", "\xff|\xfe", "((((((|))))))", strings.Repeat("()", 1<<18) + "|" + strings.Repeat("()", 1<<18)} {
		checkCall(t, "ParseMeander", func() (any, bool) { return pack(impl.ParseMeander(s)) })
	}
}
