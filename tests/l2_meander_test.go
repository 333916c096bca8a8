package tests

import (
	"math"
	"slices"
	"strings"
	"testing"

	"loop.example/g01126/impl"
)

func TestPromise2IsPair(t *testing.T) {
	lists := append(systemsUpTo(3), nil)
	for _, p := range wildLists() {
		lists = append(lists, p)
	}
	for _, top := range lists {
		for _, bottom := range lists {
			m := impl.Meander{Top: top, Bottom: bottom}
			if impl.IsPair(m) != isPairByWords(m) {
				t.Errorf("IsPair is wrong for %d points above and %d below", len(top), len(bottom))
			}
		}
	}
	for what, m := range wildPairs() {
		if impl.IsPair(m) {
			t.Errorf("%s is a pair", what)
		}
	}
	if !impl.IsPair(impl.Meander{}) || !impl.IsPair(impl.Meander{Top: []int{}}) {
		t.Error("a pair may have no arches")
	}
	rainbow := []int{11, 10, 9, 8, 7, 6, 5, 4, 3, 2, 1, 0}
	if !impl.IsPair(impl.Meander{Top: rainbow, Bottom: rainbow}) {
		t.Error("a pair may have six arches above, and its systems may share memory")
	}
}

func TestPromise2Components(t *testing.T) {
	for _, m := range pairsUpTo(5) {
		want := curvesByWords(m)
		if got, ok := impl.CurvesOf(m); !ok || !sameLists(got, want) {
			t.Errorf("CurvesOf(%v) is %v", m, got)
		}
		if got, ok := impl.ComponentsOf(m); !ok || got != len(want) {
			t.Errorf("ComponentsOf(%v) is %v", m, got)
		}
		if got, ok := impl.IsMeander(m); !ok || got != (len(want) == 1) {
			t.Errorf("IsMeander(%v) is %v", m, got)
		}
		index := make([]int, len(m.Top))
		for c, curve := range want {
			for _, i := range curve {
				index[i] = c
			}
		}
		if got, ok := impl.CurveOfPoints(m); !ok || !sameList(got, index) {
			t.Errorf("CurveOfPoints(%v) is %v", m, got)
		}
	}
}

func TestPromise2ComponentsOfSixArches(t *testing.T) {
	for _, m := range pairsByWords(6) {
		want := curvesByWords(m)
		if got, ok := impl.ComponentsOf(m); !ok || got != len(want) {
			t.Errorf("ComponentsOf(%v) is %v", m, got)
		}
		if got, ok := impl.CurvesOf(m); !ok || !sameLists(got, want) {
			t.Errorf("CurvesOf(%v) is %v", m, got)
		}
	}
}

func TestPromise2Ways(t *testing.T) {
	pairs := append(pairsUpTo(4), pairsByWords(6)[:300]...)
	for _, m := range pairs {
		for i := -2; i <= len(m.Top)+1; i++ {
			way, ok := impl.WayFrom(m, i)
			if i < 0 || i >= len(m.Top) {
				mustNotSucceed(t, "a way from no point", ok, way)
			} else if !ok || !sameList(way, wayByWords(m, i)) {
				t.Errorf("WayFrom(%v, %d) is %v", m, i, way)
			}
		}
		for _, i := range []int{math.MinInt, math.MaxInt} {
			way, ok := impl.WayFrom(m, i)
			mustNotSucceed(t, "a way from far away", ok, way)
		}
	}
}

func TestPromise2Closing(t *testing.T) {
	for _, p := range systemsUpTo(6) {
		var closing [][]int
		counts := make([]int, 7)
		for _, q := range systemsByWords(len(p) / 2) {
			k := len(curvesByWords(impl.Meander{Top: p, Bottom: q}))
			counts[k]++
			if k == 1 {
				closing = append(closing, q)
			}
		}
		got, ok := impl.ClosingWith(p)
		if len(p) == 0 {
			mustNotSucceed(t, "closing with no arches", ok, got)
		} else if !ok || !sameLists(got, closing) {
			t.Errorf("ClosingWith(%v) is %v", p, got)
		}
		for k, want := range counts {
			if c, ok := impl.CountClosing(p, k); !ok || c != want {
				t.Errorf("CountClosing(%v, %d) is %d", p, k, c)
			}
		}
		for _, k := range []int{-1, 7, math.MinInt, math.MaxInt} {
			c, ok := impl.CountClosing(p, k)
			mustNotSucceed(t, "no number of components", ok, c)
		}
	}
	for what, p := range wildLists() {
		got, ok := impl.ClosingWith(p)
		mustNotSucceed(t, "ClosingWith what is "+what, ok, got)
		c, ok := impl.CountClosing(p, 1)
		mustNotSucceed(t, "CountClosing what is "+what, ok, c)
	}
}

func TestPromise2ListsAndRanks(t *testing.T) {
	counts := []int{0, 1, 2, 8, 42}
	for n, count := range counts {
		want := meandersByWords(n)
		if len(want) != count {
			t.Fatalf("there are %d meanders with %d arches above", len(want), n)
		}
		if got, ok := impl.MeandersOf(n); !ok || !sameResult(got, want) {
			t.Errorf("MeandersOf(%d) is %v", n, got)
		}
		if got, ok := impl.CountMeanders(n); !ok || got != count {
			t.Errorf("CountMeanders(%d) is %d", n, got)
		}
		for rank, m := range want {
			if got, ok := impl.MeanderWith(n, rank); !ok || !sameResult(got, m) {
				t.Errorf("MeanderWith(%d, %d) is %v", n, rank, got)
			}
			if got, ok := impl.RankMeander(m); !ok || got != rank {
				t.Errorf("RankMeander(%v) is %d", m, got)
			}
		}
		for _, rank := range []int{-1, math.MinInt, count, count + 1, math.MaxInt} {
			got, ok := impl.MeanderWith(n, rank)
			mustNotSucceed(t, "a rank of no meander", ok, got)
		}
	}
	for _, m := range pairsUpTo(4) {
		if len(curvesByWords(m)) != 1 {
			got, ok := impl.RankMeander(m)
			mustNotSucceed(t, "the rank of no meander", ok, got)
		}
	}
	for _, m := range append(meandersByWords(5), meandersByWords(6)...) {
		got, ok := impl.RankMeander(m)
		mustNotSucceed(t, "the rank of a meander of too many arches", ok, got)
	}
}

func TestPromise2CountByComponents(t *testing.T) {
	for n := 0; n <= 4; n++ {
		want := make([]int, n+1)
		for _, m := range pairsByWords(n) {
			want[len(curvesByWords(m))]++
		}
		if got, ok := impl.CountByComponents(n); !ok || !sameList(got, want) {
			t.Errorf("CountByComponents(%d) is %v", n, got)
		}
	}
}

func TestPromise2NumbersOutOfLimits(t *testing.T) {
	for _, n := range []int{-1, 5, 6, 7, math.MinInt, math.MaxInt} {
		all, ok := impl.MeandersOf(n)
		mustNotSucceed(t, "MeandersOf", ok, all)
		c, ok := impl.CountMeanders(n)
		mustNotSucceed(t, "CountMeanders", ok, c)
		counts, ok := impl.CountByComponents(n)
		mustNotSucceed(t, "CountByComponents", ok, counts)
		m, ok := impl.MeanderWith(n, 0)
		mustNotSucceed(t, "MeanderWith", ok, m)
	}
}

func TestPromise2FlipTurnAndMirror(t *testing.T) {
	for _, m := range pairsUpTo(4) {
		size := len(m.Top)
		flipped := impl.Meander{Top: m.Bottom, Bottom: m.Top}
		if got, ok := impl.FlipMeander(m); !ok || !sameResult(got, flipped) {
			t.Errorf("FlipMeander(%v) is %v", m, got)
		}
		place := func(i int) int { return size - 1 - i }
		mirrored := impl.Meander{Top: movedBy(m.Top, place), Bottom: movedBy(m.Bottom, place)}
		if got, ok := impl.MirrorMeander(m); !ok || !sameResult(got, mirrored) {
			t.Errorf("MirrorMeander(%v) is %v", m, got)
		}
		for _, by := range []int{-100, -99, -9, -8, -3, -2, -1, 0, 1, 2, 5, 8, 13, 99, 100} {
			place := func(i int) int { return (i + by + 1000*size) % size }
			turned := impl.Meander{Top: movedBy(m.Top, place), Bottom: movedBy(m.Bottom, place)}
			if got, ok := impl.TurnMeander(m, by); !ok || !sameResult(got, turned) {
				t.Errorf("TurnMeander(%v, %d) is %v", m, by, got)
			}
		}
		for _, by := range []int{-101, 101, math.MinInt, math.MaxInt} {
			got, ok := impl.TurnMeander(m, by)
			mustNotSucceed(t, "a turn too far", ok, got)
		}
	}
}

func TestPromise2MovesKeepComponents(t *testing.T) {
	for _, m := range pairsByWords(5) {
		flipped, _ := impl.FlipMeander(m)
		turned, _ := impl.TurnMeander(m, 3)
		mirrored, _ := impl.MirrorMeander(m)
		for _, moved := range []impl.Meander{flipped, turned, mirrored} {
			if k, ok := impl.ComponentsOf(moved); !ok || k != len(curvesByWords(m)) {
				t.Errorf("%v has %d components, but %v", m, k, moved)
			}
		}
	}
}

func TestPromise2Join(t *testing.T) {
	some := append(pairsUpTo(3), pairsByWords(4)[37], pairsByWords(5)[1234], pairsByWords(6)[9876])
	for _, a := range some {
		for _, b := range some {
			want := impl.Meander{Top: slices.Clone(a.Top), Bottom: slices.Clone(a.Bottom)}
			for i := range b.Top {
				want.Top = append(want.Top, b.Top[i]+len(a.Top))
				want.Bottom = append(want.Bottom, b.Bottom[i]+len(a.Top))
			}
			got, ok := impl.JoinMeanders(a, b)
			if len(want.Top) > 12 {
				mustNotSucceed(t, "a join of too many arches", ok, got)
				continue
			}
			if !ok || !sameResult(got, want) {
				t.Errorf("JoinMeanders(%v, %v) is %v", a, b, got)
			}
			if k, ok := impl.ComponentsOf(got); !ok || k != len(curvesByWords(a))+len(curvesByWords(b)) {
				t.Errorf("%v and %v have %d components together", a, b, k)
			}
		}
	}
	one := impl.Meander{Top: []int{1, 0}, Bottom: []int{1, 0}}
	for what, m := range wildPairs() {
		for _, other := range []impl.Meander{{}, one, m} {
			got, ok := impl.JoinMeanders(m, other)
			mustNotSucceed(t, "a join to what is "+what, ok, got)
			got, ok = impl.JoinMeanders(other, m)
			mustNotSucceed(t, "a join of what is "+what, ok, got)
		}
	}
	over, ok := impl.JoinMeanders(impl.Meander{Top: []int{1, 0}}, impl.Meander{Bottom: []int{1, 0}})
	mustNotSucceed(t, "a join of what would be a pair only together", ok, over)
}

func TestPromise2Signs(t *testing.T) {
	for _, p := range systemsUpTo(6) {
		if s, ok := impl.SignOf(p); !ok || s != signByWords(p) {
			t.Errorf("SignOf(%v) is %d", p, s)
		}
	}
	for _, m := range pairsUpTo(5) {
		above, _ := impl.SignOf(m.Top)
		below, _ := impl.SignOf(m.Bottom)
		even := (len(m.Top)/2-len(curvesByWords(m)))%2 == 0
		if (above == below) != even {
			t.Errorf("the signs of %v are %d and %d", m, above, below)
		}
	}
	if s, ok := impl.SignOf(nil); s != 1 || !ok {
		t.Error("the sign of no arches", s)
	}
	for what, p := range wildLists() {
		s, ok := impl.SignOf(p)
		mustNotSucceed(t, "the sign of what is "+what, ok, s)
	}
}

func TestPromise2Texts(t *testing.T) {
	texts := map[string]bool{}
	for _, m := range append(pairsUpTo(5), pairsByWords(6)[:500]...) {
		want := pairTextByWords(m)
		texts[want] = true
		if got, ok := impl.MeanderText(m); !ok || got != want {
			t.Errorf("MeanderText(%v) is %q", m, got)
		}
		if got, ok := impl.ParseMeander(want); !ok || !sameResult(got, m) {
			t.Errorf("ParseMeander(%q) is %v", want, got)
		}
	}
	wild := []string{
		"", "()", "()()", "()|", "|()", "()|()()", "()()|()", "||", "()|()|", "|()|()", "()|()|()", " ()|()", "()|() ", "() | ()", "()|)(", ")(|()",
		"(|)", "()|()\n", "()/()", "()\x00()", "()()()()()()()|()()()()()()()", "((((((()))))))|()()()()()()()", strings.Repeat("|", 1<<16),
		strings.Repeat("(", 1<<16) + "|" + strings.Repeat(")", 1<<16),
	}
	for _, s := range wild {
		got, ok := impl.ParseMeander(s)
		mustNotSucceed(t, "text "+s[:min(len(s), 20)], ok, got)
	}
	var all func(string)
	all = func(s string) {
		if got, ok := impl.ParseMeander(s); ok != texts[s] || ok && pairTextByWords(got) != s {
			t.Errorf("ParseMeander(%q) is %v", s, got)
		}
		if len(s) < 9 {
			all(s + "(")
			all(s + ")")
			all(s + "|")
		}
	}
	all("")
}

func TestPromise2Example(t *testing.T) {
	m, ok := impl.ParseMeander("(())|()()")
	if !ok || !sameResult(m, impl.Meander{Top: []int{3, 2, 1, 0}, Bottom: []int{1, 0, 3, 2}}) {
		t.Fatal("pair", m)
	}
	if is, ok := impl.IsMeander(m); !is || !ok {
		t.Error("(())|()() is a meander")
	}
	if way, ok := impl.WayFrom(m, 0); !ok || !sameList(way, []int{0, 3, 2, 1}) {
		t.Error("way", way)
	}
	if k, ok := impl.ComponentsOf(impl.Meander{Top: []int{1, 0, 3, 2}, Bottom: []int{1, 0, 3, 2}}); k != 2 || !ok {
		t.Error("components", k)
	}
	if c, ok := impl.CountByComponents(2); !ok || !sameList(c, []int{0, 2, 2}) {
		t.Error("two arches", c)
	}
}

func TestPromise2SmallArchesAtOnePoint(t *testing.T) {
	m, ok := impl.ParseMeander("(()())|()(())")
	if !ok {
		t.Fatal("pair", m)
	}
	if way, ok := impl.WayFrom(m, 3); !ok || !sameList(way, []int{3, 4}) {
		t.Error("the way from a curve of two small arches", way)
	}
	if way, ok := impl.WayFrom(m, 4); !ok || !sameList(way, []int{4, 3}) {
		t.Error("the same from its other end", way)
	}
	if curves, ok := impl.CurvesOf(m); !ok || !sameLists(curves, [][]int{{0, 1, 2, 5}, {3, 4}}) {
		t.Error("curves", curves)
	}
	flat := impl.Meander{Top: []int{1, 0, 3, 2, 5, 4, 7, 6, 9, 8, 11, 10}, Bottom: []int{1, 0, 3, 2, 5, 4, 7, 6, 9, 8, 11, 10}}
	if k, ok := impl.ComponentsOf(flat); k != 6 || !ok {
		t.Error("six curves of small arches", k)
	}
	if index, ok := impl.CurveOfPoints(flat); !ok || !sameList(index, []int{0, 0, 1, 1, 2, 2, 3, 3, 4, 4, 5, 5}) {
		t.Error("their points", index)
	}
}

func TestPromise2WithoutArches(t *testing.T) {
	for _, m := range []impl.Meander{{}, {Top: []int{}, Bottom: []int{}}, {Bottom: []int{}}} {
		if is, ok := impl.IsMeander(m); is || !ok {
			t.Error("no arches are no meander", is, ok)
		}
		if k, ok := impl.ComponentsOf(m); k != 0 || !ok {
			t.Error("components", k, ok)
		}
		if s, ok := impl.MeanderText(m); s != "|" || !ok {
			t.Error("text", s, ok)
		}
		for name, call := range map[string]func() (any, bool){
			"CurvesOf":      func() (any, bool) { return pack(impl.CurvesOf(m)) },
			"CurveOfPoints": func() (any, bool) { return pack(impl.CurveOfPoints(m)) },
			"FlipMeander":   func() (any, bool) { return pack(impl.FlipMeander(m)) },
			"TurnMeander":   func() (any, bool) { return pack(impl.TurnMeander(m, 100)) },
			"MirrorMeander": func() (any, bool) { return pack(impl.MirrorMeander(m)) },
			"JoinMeanders":  func() (any, bool) { return pack(impl.JoinMeanders(m, m)) },
			"ParseMeander":  func() (any, bool) { return pack(impl.ParseMeander("|")) },
			"MeandersOf":    func() (any, bool) { return pack(impl.MeandersOf(0)) },
		} {
			if got, ok := call(); !ok || !isZeroResult(got) {
				t.Errorf("%s: %v, %v", name, got, ok)
			}
		}
		way, ok := impl.WayFrom(m, 0)
		mustNotSucceed(t, "a way from no point", ok, way)
		rank, ok := impl.RankMeander(m)
		mustNotSucceed(t, "the rank of no arches", ok, rank)
	}
	if c, ok := impl.CountClosing(nil, 0); c != 1 || !ok {
		t.Error("one pair without arches has no components", c, ok)
	}
	if c, ok := impl.CountByComponents(0); !ok || !sameList(c, []int{1}) {
		t.Error("counts of pairs without arches", c, ok)
	}
	m, ok := impl.MeanderWith(0, 0)
	mustNotSucceed(t, "a meander without arches", ok, m)
}
