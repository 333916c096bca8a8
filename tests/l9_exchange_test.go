package tests

import (
	"math"
	"slices"
	"testing"

	"loop.example/g01126/impl"
)

func listTexts(lists [][]int) []string {
	var texts []string
	for _, p := range lists {
		texts = append(texts, textByWords(p))
	}
	return texts
}

func topTexts(path []impl.Meander) []string {
	return listTexts(topsByWords(path))
}

func TestPromise9Examples(t *testing.T) {
	flat, goal := systemOfText("()()()"), systemOfText("(()())")
	if faces, ok := impl.FacesOf(flat); !ok || !sameLists(faces, [][]int{{0, 2, 4}, {0}, {2}, {4}}) {
		t.Error("the faces of ()()()", faces, ok)
	}
	if all, ok := impl.ExchangesOf(flat); !ok || !slices.Equal(listTexts(all), []string{"()(())", "(())()", "((()))"}) {
		t.Error("the exchanges of ()()()", listTexts(all), ok)
	}
	if count, ok := impl.CountExchanges(flat); count != 3 || !ok {
		t.Error("how many exchanges ()()() has", count, ok)
	}
	if d, ok := impl.ExchangeDistance(flat, goal); d != 2 || !ok {
		t.Error("the distance of ()()() from (()())", d, ok)
	}
	if ways, ok := impl.CountShortest(flat, goal); ways != 3 || !ok {
		t.Error("the shortest ways from ()()() to (()())", ways, ok)
	}
	if path, ok := impl.ExchangePath(flat, goal); !ok || !slices.Equal(listTexts(path), []string{"()()()", "(())()", "(()())"}) {
		t.Error("the path from ()()() to (()())", listTexts(path), ok)
	}
	if all, ok := impl.BetweenSystems(flat, goal); !ok || !slices.Equal(listTexts(all), []string{"()()()", "()(())", "(())()", "(()())", "((()))"}) {
		t.Error("between ()()() and (()())", listTexts(all), ok)
	}
}

func TestPromise9WithoutArches(t *testing.T) {
	for _, p := range [][]int{nil, {}} {
		if faces, ok := impl.FacesOf(p); !ok || !sameLists(faces, [][]int{{}}) {
			t.Error("no arches have one face, which is empty:", faces, ok)
		}
		behind, ok := impl.ExchangeAt(p, 0, 1)
		mustNotSucceed(t, "an exchange without arches", ok, behind)
		if all, ok := impl.ExchangesOf(p); !ok || len(all) != 0 {
			t.Error("exchanges", all, ok)
		}
		if count, ok := impl.CountExchanges(p); count != 0 || !ok {
			t.Error("how many exchanges", count, ok)
		}
		for _, q := range [][]int{nil, {}} {
			if d, ok := impl.ExchangeDistance(p, q); d != 0 || !ok {
				t.Error("distance", d, ok)
			}
			if path, ok := impl.ExchangePath(p, q); !ok || !sameLists(path, [][]int{{}}) {
				t.Error("path", path, ok)
			}
			if ways, ok := impl.CountShortest(p, q); ways != 1 || !ok {
				t.Error("shortest ways", ways, ok)
			}
			if all, ok := impl.BetweenSystems(p, q); !ok || !sameLists(all, [][]int{{}}) {
				t.Error("between", all, ok)
			}
		}
		all, ok := impl.FarthestFrom(p)
		mustNotSucceed(t, "the farthest systems without arches", ok, all)
	}
	for _, m := range emptyPairs() {
		d, ok := impl.MergeDistance(m)
		mustNotSucceed(t, "the merge distance without arches", ok, d)
		path, ok := impl.MergePath(m)
		mustNotSucceed(t, "the merge path without arches", ok, path)
		path, ok = impl.SplitPath(m)
		mustNotSucceed(t, "the split path without arches", ok, path)
	}
}

func TestPromise9OneArch(t *testing.T) {
	p := []int{1, 0}
	m := impl.Meander{Top: p, Bottom: p}
	if faces, ok := impl.FacesOf(p); !ok || !sameLists(faces, [][]int{{0}, {0}}) {
		t.Error("faces", faces, ok)
	}
	for _, at := range [][2]int{{0, 1}, {0, 0}, {1, 0}, {-1, 0}, {0, 2}} {
		behind, ok := impl.ExchangeAt(p, at[0], at[1])
		mustNotSucceed(t, "an exchange of one arch", ok, behind)
	}
	if all, ok := impl.ExchangesOf(p); !ok || len(all) != 0 {
		t.Error("exchanges", all, ok)
	}
	if count, ok := impl.CountExchanges(p); count != 0 || !ok {
		t.Error("how many exchanges", count, ok)
	}
	if d, ok := impl.ExchangeDistance(p, p); d != 0 || !ok {
		t.Error("distance", d, ok)
	}
	if ways, ok := impl.CountShortest(p, p); ways != 1 || !ok {
		t.Error("shortest ways", ways, ok)
	}
	for name, call := range map[string]func() ([][]int, bool){
		"ExchangePath":   func() ([][]int, bool) { return impl.ExchangePath(p, p) },
		"BetweenSystems": func() ([][]int, bool) { return impl.BetweenSystems(p, p) },
		"FarthestFrom":   func() ([][]int, bool) { return impl.FarthestFrom(p) },
	} {
		if all, ok := call(); !ok || !sameLists(all, [][]int{{1, 0}}) {
			t.Error(name, all, ok)
		}
	}
	if d, ok := impl.MergeDistance(m); d != 0 || !ok {
		t.Error("merge distance", d, ok)
	}
	if path, ok := impl.MergePath(m); !ok || !sameResult(path, []impl.Meander{m}) {
		t.Error("merge path", path, ok)
	}
	if path, ok := impl.SplitPath(m); !ok || !sameResult(path, []impl.Meander{m}) {
		t.Error("split path", path, ok)
	}
}

// TestPromise9Faces knows that each arch is in two faces, the one over it and the one
// under it, and that there is one face more than arches.
func TestPromise9Faces(t *testing.T) {
	for _, p := range systemsUpTo(6) {
		faces, ok := impl.FacesOf(p)
		if !ok || !sameLists(faces, facesByWords(p)) {
			t.Fatalf("FacesOf(%s) is %v, %v", textByWords(p), faces, ok)
		}
		if len(faces) != len(p)/2+1 || len(slices.Concat(faces...)) != len(p) {
			t.Fatalf("FacesOf(%s) has too few or too many: %v", textByWords(p), faces)
		}
	}
	for text, want := range map[string][][]int{
		"(())()":       {{0, 4}, {0, 1}, {1}, {4}},
		"((()))":       {{0}, {0, 1}, {1, 2}, {2}},
		"(()())()(())": {{0, 6, 8}, {0, 1, 3}, {1}, {3}, {6}, {8, 9}, {9}},
		"((()())())":   {{0}, {0, 1, 7}, {1, 2, 4}, {2}, {4}, {7}},
		"()()()()()()": {{0, 2, 4, 6, 8, 10}, {0}, {2}, {4}, {6}, {8}, {10}},
	} {
		if faces, ok := impl.FacesOf(systemOfText(text)); !ok || !sameLists(faces, want) {
			t.Errorf("FacesOf(%s) is %v, %v", text, faces, ok)
		}
	}
}

func checkExchangeAt(t *testing.T, p []int, i, j int) {
	t.Helper()
	got, ok := impl.ExchangeAt(p, i, j)
	want, found := exchangedByWords(p, i, j)
	if !found {
		mustNotSucceed(t, "an exchange in "+textByWords(p), ok, got)
	} else if !ok || !sameList(got, want) {
		t.Fatalf("ExchangeAt(%s, %d, %d) is %s, %v", textByWords(p), i, j, textByWords(got), ok)
	}
}

func TestPromise9ExchangeAt(t *testing.T) {
	for _, p := range systemsUpTo(6) {
		for i := -1; i <= len(p); i++ {
			for j := -1; j <= len(p); j++ {
				checkExchangeAt(t, p, i, j)
			}
		}
	}
	for _, i := range wildNumbers() {
		for _, j := range wildNumbers() {
			for _, text := range []string{"", "()", "()()", "(())", "(()())(())", "((()))()()()"} {
				checkExchangeAt(t, systemOfText(text), i, j)
			}
		}
	}
}

func TestPromise9ExchangeAtNamed(t *testing.T) {
	for _, e := range []struct {
		text string
		i, j int
		want string
	}{
		{"()()", 0, 2, "(())"},
		{"(())", 0, 1, "()()"},
		{"()()()", 0, 2, "(())()"},
		{"()()()", 0, 4, "((()))"},
		{"()()()", 2, 4, "()(())"},
		{"((()))", 0, 1, "()()()"},
		{"((()))", 1, 2, "(()())"},
		{"(())()", 0, 4, "(()())"},
		{"(()())", 0, 1, "()(())"},
		{"(()())", 0, 3, "(())()"},
		{"(()())", 1, 3, "((()))"},
		{"(()())(())", 0, 6, "(()()()())"},
		{"(()())(())", 6, 7, "(()())()()"},
		{"()()()()()()", 0, 10, "((()()()()))"},
		{"(((((())))))", 0, 1, "()(((())))()"},
	} {
		got, ok := impl.ExchangeAt(systemOfText(e.text), e.i, e.j)
		if !ok || textByWords(got) != e.want {
			t.Errorf("ExchangeAt(%s, %d, %d) is %s, %v", e.text, e.i, e.j, textByWords(got), ok)
		}
	}
	for _, e := range []struct {
		text string
		i, j int
	}{
		{"((()))", 0, 2},
		{"(())()", 1, 4},
		{"()(())", 0, 3},
		{"(())(())", 1, 5},
		{"((())())", 2, 5},
		{"((())(()))", 2, 6},
		{"()()", 2, 0},
		{"()()", 0, 0},
		{"()()", 2, 2},
		{"()()", 0, 1},
		{"()()", 1, 2},
		{"()()", 0, 3},
		{"()()", 1, 3},
		{"()()", -1, 0},
		{"()()", -1, 2},
		{"()()", 2, 4},
		{"()()", -1, 4},
		{"(())", 0, 2},
		{"(())", 1, 0},
		{"(())", 0, 3},
		{"()()()()()()", 10, 12},
		{"(((((())))))", 0, 11},
	} {
		got, ok := impl.ExchangeAt(systemOfText(e.text), e.i, e.j)
		mustNotSucceed(t, "an exchange in "+e.text, ok, got)
	}
}

func TestPromise9Exchanges(t *testing.T) {
	for _, g := range exchangeGraphs() {
		for rank, p := range g.systems {
			all, ok := impl.ExchangesOf(p)
			if !ok || !sameLists(all, g.systemsAt(g.next[rank])) {
				t.Fatalf("ExchangesOf(%s) is %v, %v", textByWords(p), listTexts(all), ok)
			}
			pairs := 0
			for _, face := range facesByWords(p) {
				pairs += len(face) * (len(face) - 1) / 2
			}
			if count, ok := impl.CountExchanges(p); !ok || count != pairs || count != len(all) {
				t.Fatalf("CountExchanges(%s) is %d, %v; there are %d", textByWords(p), count, ok, len(all))
			}
		}
	}
	// Ordered by the arches, the last one of these would be the second one.
	all, ok := impl.ExchangesOf(systemOfText("((()))()"))
	if !ok || !slices.Equal(listTexts(all), []string{"()()()()", "(()())()", "((())())"}) {
		t.Error("the exchanges of ((()))()", listTexts(all), ok)
	}
}

// TestPromise9Undone exchanges the two arches back that an exchange has made.
func TestPromise9Undone(t *testing.T) {
	for _, p := range systemsUpTo(6) {
		for _, i := range archesByWords(p) {
			for _, j := range archesByWords(p) {
				q, ok := impl.ExchangeAt(p, i, j)
				if !ok {
					continue
				}
				begins := []int{min(i, q[i]), min(j, q[j]), min(p[i], q[p[i]]), min(p[j], q[p[j]])}
				slices.Sort(begins)
				begins = slices.Compact(begins)
				back, ok := impl.ExchangeAt(q, begins[0], begins[1])
				if len(begins) != 2 || !ok || !sameList(back, p) {
					t.Fatalf("ExchangeAt(%s, %d, %d) is not undone: %s, %v", textByWords(p), i, j, textByWords(back), ok)
				}
			}
		}
	}
	for _, e := range []struct {
		text   string
		i, j   int
		behind string
		k, l   int
	}{
		{"()()", 0, 2, "(())", 0, 1},
		{"()()()", 0, 4, "((()))", 0, 1},
		{"(()())(())", 0, 6, "(()()()())", 0, 5},
		{"(()(())())", 0, 3, "(())()(())", 0, 6},
	} {
		q, ok := impl.ExchangeAt(systemOfText(e.text), e.i, e.j)
		if !ok || textByWords(q) != e.behind {
			t.Errorf("ExchangeAt(%s, %d, %d) is %s, %v", e.text, e.i, e.j, textByWords(q), ok)
		}
		if back, ok := impl.ExchangeAt(q, e.k, e.l); !ok || textByWords(back) != e.text {
			t.Errorf("ExchangeAt(%s, %d, %d) is %s, %v", e.behind, e.k, e.l, textByWords(back), ok)
		}
	}
}

// TestPromise9ChangesByOne has each exchange above, with each system below.
func TestPromise9ChangesByOne(t *testing.T) {
	for _, g := range exchangeGraphs() {
		for a, p := range g.systems {
			exchanges, ok := impl.ExchangesOf(p)
			if !ok {
				t.Fatalf("ExchangesOf(%s) fails", textByWords(p))
			}
			for _, q := range exchanges {
				for b, bottom := range g.systems {
					curves, ok := impl.ComponentsOf(impl.Meander{Top: q, Bottom: bottom})
					change := curves - g.curves[a][b]
					if !ok || change != 1 && change != -1 {
						t.Fatalf("the exchange from %s to %s over %s changes the number of components by %d", textByWords(p), textByWords(q), textByWords(bottom), change)
					}
				}
			}
		}
	}
}

func TestPromise9Distances(t *testing.T) {
	fromEachPair(6, func(g exchangeGraph, a, b int) {
		d, ok := impl.ExchangeDistance(g.systems[a], g.systems[b])
		if !ok || d != g.distance[a][b] || d != len(g.systems[a])/2-g.curves[a][b] {
			t.Fatalf("ExchangeDistance of %s is %d, %v", pairTextByWords(g.pair(a, b)), d, ok)
		}
	})
	for text, want := range map[string]int{
		"()|()":                     0,
		"()()|(())":                 1,
		"(())(())|()(()())":         2,
		"((()))|((()))":             0,
		"()()()()()()|(()()()()())": 5,
		"(((((())))))|()()()()()()": 3,
	} {
		m := pairOfText(text)
		if d, ok := impl.ExchangeDistance(m.Top, m.Bottom); !ok || d != want {
			t.Errorf("ExchangeDistance of %s is %d, %v", text, d, ok)
		}
	}
}

// pathsToCheck calls for all pairs of up to five arches and for some of six.
func pathsToCheck(call func(g exchangeGraph, a, b int)) {
	fromEachPair(6, func(g exchangeGraph, a, b int) {
		if len(g.systems) < 132 || (a*132+b)%11 == 0 || a == b {
			call(g, a, b)
		}
	})
}

func TestPromise9Paths(t *testing.T) {
	pathsToCheck(func(g exchangeGraph, a, b int) {
		m := g.pair(a, b)
		path, ok := impl.ExchangePath(m.Top, m.Bottom)
		if !ok || !sameLists(path, topsByWords(pathByWords(m, 1, hasSameSystems))) {
			t.Fatalf("ExchangePath of %s is %v, %v", pairTextByWords(m), listTexts(path), ok)
		}
		if len(path)-1 != g.distance[a][b] {
			t.Fatalf("ExchangePath of %s is no shortest way: %v", pairTextByWords(m), listTexts(path))
		}
	})
	for text, want := range map[string][]string{
		"()|()":                     {"()"},
		"(()())|(()())":             {"(()())"},
		"()()|(())":                 {"()()", "(())"},
		"(())|()()":                 {"(())", "()()"},
		"()()()|((()))":             {"()()()", "((()))"},
		"()(())|(())()":             {"()(())", "(()())", "(())()"},
		"(())()|()(())":             {"(())()", "()()()", "()(())"},
		"()()()()()()|(()()()()())": {"()()()()()()", "(())()()()()", "(()())()()()", "(()()())()()", "(()()()())()", "(()()()()())"},
	} {
		m := pairOfText(text)
		if path, ok := impl.ExchangePath(m.Top, m.Bottom); !ok || !slices.Equal(listTexts(path), want) {
			t.Errorf("ExchangePath of %s is %v, %v", text, listTexts(path), ok)
		}
	}
}

func TestPromise9Shortest(t *testing.T) {
	fromEachPair(5, func(g exchangeGraph, a, b int) {
		m := g.pair(a, b)
		if ways, ok := impl.CountShortest(m.Top, m.Bottom); !ok || ways != g.ways[a][b] {
			t.Fatalf("CountShortest of %s is %d, %v", pairTextByWords(m), ways, ok)
		}
		between := g.ranksWhere(func(rank int) bool {
			return g.distance[a][rank]+g.distance[rank][b] == g.distance[a][b]
		})
		if all, ok := impl.BetweenSystems(m.Top, m.Bottom); !ok || !sameLists(all, g.systemsAt(between)) {
			t.Fatalf("BetweenSystems of %s is %v, %v", pairTextByWords(m), listTexts(all), ok)
		}
	})
	for text, want := range map[string][]string{
		"()()|()()":           {"()()"},
		"()()|(())":           {"()()", "(())"},
		"()(())|(())()":       {"()()()", "()(())", "(())()", "(()())"},
		"((()))|()()()":       {"()()()", "((()))"},
		"(())(())|(())(())":   {"(())(())"},
		"()()()()|(((())))":   {"()()()()", "()(())()", "((()()))", "(((())))"},
		"()()()()()|()()()()": nil,
	} {
		m := pairOfText(text)
		all, ok := impl.BetweenSystems(m.Top, m.Bottom)
		if ok != (want != nil) || !slices.Equal(listTexts(all), want) {
			t.Errorf("BetweenSystems of %s is %v, %v", text, listTexts(all), ok)
		}
	}
}

// TestPromise9SmallArchesTurned counts ways from small arches to these turned by one:
// n to the power n - 2, and all systems are between.
func TestPromise9SmallArchesTurned(t *testing.T) {
	for n, want := range map[int]int{1: 1, 2: 1, 3: 3, 4: 16, 5: 125} {
		flat, _ := impl.FlatOf(n)
		turned, _ := impl.TurnSystem(flat, 1)
		for _, e := range [][2][]int{{flat, turned}, {turned, flat}} {
			if ways, ok := impl.CountShortest(e[0], e[1]); !ok || ways != want {
				t.Errorf("CountShortest of %d small arches and these turned is %d, %v", n, ways, ok)
			}
			if all, ok := impl.BetweenSystems(e[0], e[1]); !ok || !sameLists(all, systemsByWords(n)) {
				t.Errorf("between %d small arches and these turned are %v, %v", n, listTexts(all), ok)
			}
			if d, ok := impl.ExchangeDistance(e[0], e[1]); !ok || d != n-1 {
				t.Errorf("the distance of %d small arches and these turned is %d, %v", n, d, ok)
			}
		}
	}
}

func TestPromise9Farthest(t *testing.T) {
	for _, g := range exchangeGraphs()[1:] {
		for a, p := range g.systems {
			greatest := slices.Max(g.distance[a])
			farthest := g.ranksWhere(func(rank int) bool { return g.distance[a][rank] == greatest })
			all, ok := impl.FarthestFrom(p)
			if !ok || !sameLists(all, g.systemsAt(farthest)) {
				t.Fatalf("FarthestFrom(%s) is %v, %v", textByWords(p), listTexts(all), ok)
			}
			for _, rank := range farthest {
				if g.curves[a][rank] != 1 {
					t.Fatalf("%s makes no meander", pairTextByWords(g.pair(a, rank)))
				}
			}
		}
	}
	for text, want := range map[string][]string{
		"()":     {"()"},
		"()()":   {"(())"},
		"(())":   {"()()"},
		"()()()": {"(()())"},
		"((()))": {"()(())", "(())()"},
	} {
		if all, ok := impl.FarthestFrom(systemOfText(text)); !ok || !slices.Equal(listTexts(all), want) {
			t.Errorf("FarthestFrom(%s) is %v, %v", text, listTexts(all), ok)
		}
	}
}

// nearestMeander returns how far the nearest system is that makes a meander.
func nearestMeander(g exchangeGraph, top, bottom int) int {
	nearest := math.MaxInt
	for rank, curves := range g.curves[bottom] {
		if curves == 1 {
			nearest = min(nearest, g.distance[top][rank])
		}
	}
	return nearest
}

func TestPromise9MergeAndSplit(t *testing.T) {
	fromEachPair(6, func(g exchangeGraph, a, b int) {
		m := g.pair(a, b)
		if len(m.Top) == 0 {
			return
		}
		d, ok := impl.MergeDistance(m)
		if !ok || d != g.curves[a][b]-1 || len(m.Top) < 12 && d != nearestMeander(g, a, b) {
			t.Fatalf("MergeDistance(%s) is %d, %v", pairTextByWords(m), d, ok)
		}
	})
	pathsToCheck(func(g exchangeGraph, a, b int) {
		m := g.pair(a, b)
		if len(m.Top) == 0 {
			return
		}
		merging, ok := impl.MergePath(m)
		if !ok || !sameResult(merging, pathByWords(m, -1, isOneCurve)) || len(merging) != g.curves[a][b] {
			t.Fatalf("MergePath(%s) is %v, %v", pairTextByWords(m), textsOf(merging), ok)
		}
		splitting, ok := impl.SplitPath(m)
		if !ok || !sameResult(splitting, pathByWords(m, 1, hasAllCurves)) || len(splitting)-1 != g.distance[a][b] {
			t.Fatalf("SplitPath(%s) is %v, %v", pairTextByWords(m), textsOf(splitting), ok)
		}
	})
}

// TestPromise9MergeAndSplitNamed has curves next to each other and inside of each
// other, meanders, and pairs with as many components as arches.
func TestPromise9MergeAndSplitNamed(t *testing.T) {
	for _, e := range []struct {
		text      string
		merging   []string
		splitting []string
	}{
		{"()|()", []string{"()"}, []string{"()"}},
		{"(())|()()", []string{"(())"}, []string{"(())", "()()"}},
		{"()()|()()", []string{"()()", "(())"}, []string{"()()"}},
		{"(())|(())", []string{"(())", "()()"}, []string{"(())"}},
		{"()()()|()()()", []string{"()()()", "(())()", "(()())"}, []string{"()()()"}},
		{"((()))|((()))", []string{"((()))", "()()()", "(())()"}, []string{"((()))"}},
		{"()()()|((()))", []string{"()()()", "(())()"}, []string{"()()()", "((()))"}},
		{"()(())|(())()", []string{"()(())"}, []string{"()(())", "(()())", "(())()"}},
		{"(())()|()()()", []string{"(())()", "(()())"}, []string{"(())()", "()()()"}},
	} {
		m := pairOfText(e.text)
		if path, ok := impl.MergePath(m); !ok || !slices.Equal(topTexts(path), e.merging) {
			t.Errorf("MergePath(%s) is %v, %v", e.text, textsOf(path), ok)
		}
		if path, ok := impl.SplitPath(m); !ok || !slices.Equal(topTexts(path), e.splitting) {
			t.Errorf("SplitPath(%s) is %v, %v", e.text, textsOf(path), ok)
		}
		if d, ok := impl.MergeDistance(m); !ok || d != len(e.merging)-1 {
			t.Errorf("MergeDistance(%s) is %d, %v", e.text, d, ok)
		}
	}
}

// TestPromise9Limits has five, six and seven arches.
func TestPromise9Limits(t *testing.T) {
	five, six, seven := systemOfText("()(()())()"), systemOfText("()(()()())()"), systemOfText("()(()()()())()")
	if ways, ok := impl.CountShortest(five, five); ways != 1 || !ok {
		t.Error("the shortest ways of five arches", ways, ok)
	}
	if all, ok := impl.BetweenSystems(five, five); !ok || !sameLists(all, [][]int{five}) {
		t.Error("between five arches", all, ok)
	}
	for _, p := range [][]int{six, seven} {
		ways, ok := impl.CountShortest(p, p)
		mustNotSucceed(t, "the shortest ways of more arches than MaxExchanged", ok, ways)
		all, ok := impl.BetweenSystems(p, p)
		mustNotSucceed(t, "between more arches than MaxExchanged", ok, all)
	}
	if impl.MaxExchanged != 5 {
		t.Error("MaxExchanged is", impl.MaxExchanged)
	}
	if faces, ok := impl.FacesOf(six); !ok || len(faces) != 7 {
		t.Error("the faces of six arches", faces, ok)
	}
	checkExchangeAt(t, six, 0, 2)
	faces, ok := impl.FacesOf(seven)
	mustNotSucceed(t, "the faces of seven arches", ok, faces)
	behind, ok := impl.ExchangeAt(seven, 0, 2)
	mustNotSucceed(t, "an exchange in seven arches", ok, behind)
	count, ok := impl.CountExchanges(seven)
	mustNotSucceed(t, "how many exchanges seven arches have", ok, count)
	d, ok := impl.ExchangeDistance(seven, seven)
	mustNotSucceed(t, "the distance of seven arches", ok, d)
	for name, call := range map[string]func() ([][]int, bool){
		"ExchangesOf":  func() ([][]int, bool) { return impl.ExchangesOf(seven) },
		"ExchangePath": func() ([][]int, bool) { return impl.ExchangePath(seven, seven) },
		"FarthestFrom": func() ([][]int, bool) { return impl.FarthestFrom(seven) },
	} {
		all, ok := call()
		mustNotSucceed(t, name+" of seven arches", ok, all)
	}
}

func TestPromise9DifferentNumbersOfArches(t *testing.T) {
	all := [][]int{nil, systemOfText("()"), systemOfText("(())"), systemOfText("()()()"), systemOfText("(()())()"), systemOfText("((()))()()"), systemOfText("()(())(())()")}
	for n, a := range all {
		for k, b := range all {
			if n == k {
				continue
			}
			d, ok := impl.ExchangeDistance(a, b)
			mustNotSucceed(t, "a distance", ok, d)
			path, ok := impl.ExchangePath(a, b)
			mustNotSucceed(t, "a path", ok, path)
			ways, ok := impl.CountShortest(a, b)
			mustNotSucceed(t, "shortest ways", ok, ways)
			between, ok := impl.BetweenSystems(a, b)
			mustNotSucceed(t, "what is between", ok, between)
		}
	}
}
