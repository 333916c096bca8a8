package tests

import (
	"math"
	"slices"
	"strings"
	"testing"

	"loop.example/g01126/impl"
)

// emptyPairs are the pair without arches, in all its forms.
func emptyPairs() []impl.Meander {
	return []impl.Meander{{}, {Top: []int{}, Bottom: []int{}}, {Bottom: []int{}}}
}

func TestPromise8Examples(t *testing.T) {
	whole := pairOfText("()(())|(())()")
	if is, ok := impl.IsWhole(whole); !is || !ok {
		t.Error("()(())|(())() is not whole")
	}
	if all, ok := impl.ClosedStretches(whole); !ok || len(all) != 0 {
		t.Error("the closed stretches of ()(())|(())()", all, ok)
	}
	if is, ok := impl.IsClosed(whole, 0, 5); !is || !ok {
		t.Error("the whole line is not closed")
	}
	rainbows := pairOfText("(())|(())")
	if all, ok := impl.ClosedStretches(rainbows); !ok || !sameLists(all, [][]int{{1, 2}}) {
		t.Error("the closed stretches of (())|(())", all, ok)
	}
	if i, j, ok := impl.ShortestClosed(rainbows); i != 1 || j != 2 || !ok {
		t.Error("the shortest one of (())|(())", i, j, ok)
	}
	for n, want := range map[int]int{1: 1, 2: 2} {
		if got, ok := impl.CountWhole(n); !ok || got != want {
			t.Errorf("CountWhole(%d) is %d, %v", n, got, ok)
		}
	}
	if all, ok := impl.AllWhole(2); !ok || !slices.Equal(textsOf(all), []string{"()()|(())", "(())|()()"}) {
		t.Error("the whole pairs with two arches above", textsOf(all), ok)
	}
}

// TestPromise8Console has the calls of the console's example.
func TestPromise8Console(t *testing.T) {
	put, ok := impl.InsertPair(pairOfText("(())|()()"), 1, pairOfText("()|()"))
	if !ok || pairTextByWords(put) != "(()())|(())()" {
		t.Fatal("put", put, ok)
	}
	i, j, ok := impl.ShortestClosed(put)
	if i != 1 || j != 2 || !ok {
		t.Fatal("the shortest one", i, j, ok)
	}
	if cut, ok := impl.OutsideOf(put, i, j); !ok || pairTextByWords(cut) != "(())|()()" {
		t.Error("cut", cut, ok)
	}
}

// TestPromise8Curves holds whole pairs apart from meanders: all meanders are whole,
// but pairs of several curves may be, too.
func TestPromise8Curves(t *testing.T) {
	for n := 1; n <= 5; n++ {
		for _, m := range meandersByWords(n) {
			if is, ok := impl.IsWhole(m); !is || !ok {
				t.Fatalf("the meander %s is not whole", pairTextByWords(m))
			}
		}
	}
	for _, e := range []struct {
		text   string
		curves int
		whole  bool
	}{
		{"()((()))|((()))()", 2, true},
		{"(())(())|(((())))", 2, true},
		{"((()))()|()((()))", 2, true},
		{"(((())))|(())(())", 2, true},
		{"()((()))|()((()))", 4, false},
		{"(())(())|(())(())", 4, false},
		{"(())(())|()()()()", 2, false},
		{"(()(()))|()()()()", 2, false},
	} {
		m := pairOfText(e.text)
		if curves, ok := impl.ComponentsOf(m); !ok || curves != e.curves {
			t.Errorf("%s has %d components", e.text, curves)
		}
		if is, ok := impl.IsWhole(m); !ok || is != e.whole {
			t.Errorf("IsWhole of %s is %v, %v", e.text, is, ok)
		}
	}
}

// TestPromise8WithoutArches has pairs that have no stretches.
func TestPromise8WithoutArches(t *testing.T) {
	for _, m := range emptyPairs() {
		for _, i := range []int{-1, 0, 1} {
			is, ok := impl.IsClosed(m, i, 1)
			mustNotSucceed(t, "a stretch of no points", ok, is)
			inside, ok := impl.InsideOf(m, i, 1)
			mustNotSucceed(t, "the inside of no points", ok, inside)
			outside, ok := impl.OutsideOf(m, i, 1)
			mustNotSucceed(t, "the outside of no points", ok, outside)
		}
		if all, ok := impl.ClosedStretches(m); !ok || len(all) != 0 {
			t.Error("closed stretches", all, ok)
		}
		i, j, ok := impl.ShortestClosed(m)
		mustNotSucceed(t, "the shortest stretch of no points", ok, i, j)
		if is, ok := impl.IsWhole(m); is || !ok {
			t.Error("no arches are whole", is, ok)
		}
		if put, ok := impl.InsertPair(m, 0, m); !ok || !isZeroResult(put) {
			t.Error("no arches put into none", put, ok)
		}
		pieces, ok := impl.PiecesOf(m)
		mustNotSucceed(t, "the pieces of no arches", ok, pieces)
		pieces, ok = impl.PiecesBack(m)
		mustNotSucceed(t, "the pieces of no arches, from the back", ok, pieces)
		texts, ok := impl.PieceTexts(m)
		mustNotSucceed(t, "the texts of the pieces of no arches", ok, texts)
		is, ok := impl.IsSimple(m)
		mustNotSucceed(t, "whether no arches are simple", ok, is)
	}
}

func TestPromise8OneArch(t *testing.T) {
	m := pairOfText("()|()")
	if is, ok := impl.IsClosed(m, 0, 1); !is || !ok {
		t.Error("its line is not closed", is, ok)
	}
	if all, ok := impl.ClosedStretches(m); !ok || len(all) != 0 {
		t.Error("it has a proper closed stretch", all, ok)
	}
	if inside, ok := impl.InsideOf(m, 0, 1); !ok || !sameResult(inside, m) {
		t.Error("its inside", inside, ok)
	}
	if outside, ok := impl.OutsideOf(m, 0, 1); !ok || !isZeroResult(outside) {
		t.Error("its outside", outside, ok)
	}
	i, j, ok := impl.ShortestClosed(m)
	mustNotSucceed(t, "its shortest stretch", ok, i, j)
	if is, ok := impl.IsWhole(m); !is || !ok {
		t.Error("it is not whole", is, ok)
	}
	for _, cut := range []func(impl.Meander) ([]impl.Meander, bool){impl.PiecesOf, impl.PiecesBack} {
		if pieces, ok := cut(m); !ok || !sameResult(pieces, []impl.Meander{m}) {
			t.Error("its pieces", pieces, ok)
		}
	}
	if texts, ok := impl.PieceTexts(m); !ok || !slices.Equal(texts, []string{"()|()"}) {
		t.Error("their texts", texts, ok)
	}
	if is, ok := impl.IsSimple(m); !is || !ok {
		t.Error("it is not simple", is, ok)
	}
}

// checkStretch asks for one stretch, which may be none.
func checkStretch(t *testing.T, m impl.Meander, i, j int) {
	t.Helper()
	is, isOk := impl.IsClosed(m, i, j)
	inside, insideOk := impl.InsideOf(m, i, j)
	outside, outsideOk := impl.OutsideOf(m, i, j)
	text := pairTextByWords(m)
	if i < 0 || i >= j || j >= len(m.Top) {
		mustNotSucceed(t, "what is no stretch of "+text, isOk, is)
		mustNotSucceed(t, "the inside of what is no stretch of "+text, insideOk, inside)
		mustNotSucceed(t, "the outside of what is no stretch of "+text, outsideOk, outside)
		return
	}
	closed := isClosedByWords(m, i, j)
	if is != closed || !isOk {
		t.Fatalf("IsClosed(%s, %d, %d) is %v, %v", text, i, j, is, isOk)
	}
	if !closed {
		mustNotSucceed(t, "the inside of what is not closed in "+text, insideOk, inside)
		mustNotSucceed(t, "the outside of what is not closed in "+text, outsideOk, outside)
		return
	}
	if !insideOk || !sameResult(inside, pairOfText(insideByText(text, i, j))) {
		t.Fatalf("InsideOf(%s, %d, %d) is %v, %v", text, i, j, inside, insideOk)
	}
	if !outsideOk || !sameResult(outside, pairOfText(outsideByText(text, i, j))) {
		t.Fatalf("OutsideOf(%s, %d, %d) is %v, %v", text, i, j, outside, outsideOk)
	}
	if len(curvesByWords(inside))+len(curvesByWords(outside)) != len(curvesByWords(m)) {
		t.Fatalf("the components of %s inside and outside of %d, %d do not add up", text, i, j)
	}
	if back, ok := impl.InsertPair(outside, i, inside); !ok || !sameResult(back, m) {
		t.Fatalf("the inside of %s at %d, %d put back is %v, %v", text, i, j, back, ok)
	}
}

func TestPromise8Stretches(t *testing.T) {
	for _, m := range pairsUpTo(4) {
		for i := -1; i <= len(m.Top); i++ {
			for j := -1; j <= len(m.Top); j++ {
				checkStretch(t, m, i, j)
			}
		}
	}
	for k, m := range pairsToCut() {
		for _, s := range closedByWords(m) {
			checkStretch(t, m, s[0], s[1])
		}
		for i := range m.Top {
			checkStretch(t, m, i, (i*k+k)%(len(m.Top)+1))
		}
		checkStretch(t, m, 0, len(m.Top)-1)
	}
	for _, i := range wildNumbers() {
		for _, j := range wildNumbers() {
			checkStretch(t, impl.Meander{}, i, j)
			checkStretch(t, pairOfText("()|()"), i, j)
			checkStretch(t, pairOfText("(()(()))()()|()(())(())()"), i, j)
		}
	}
}

func TestPromise8StretchesNamed(t *testing.T) {
	m := pairOfText("()((()))(())|()(()())(())")
	for _, e := range []struct {
		i, j            int
		inside, outside string
	}{
		{0, 1, "()|()", "((()))(())|(()())(())"},
		{8, 11, "(())|(())", "()((()))|()(()())"},
		{2, 7, "((()))|(()())", "()(())|()(())"},
		{9, 10, "()|()", "()((()))()|()(()())()"},
		{0, 11, "()((()))(())|()(()())(())", "|"},
		{2, 11, "((()))(())|(()())(())", "()|()"},
		{0, 7, "()((()))|()(()())", "(())|(())"},
	} {
		if is, ok := impl.IsClosed(m, e.i, e.j); !is || !ok {
			t.Errorf("%d, %d is not closed: %v, %v", e.i, e.j, is, ok)
		}
		if got, ok := impl.InsideOf(m, e.i, e.j); !ok || pairTextByWords(got) != e.inside {
			t.Errorf("the inside of %d, %d is %s, %v", e.i, e.j, pairTextByWords(got), ok)
		}
		if got, ok := impl.OutsideOf(m, e.i, e.j); !ok || pairTextByWords(got) != e.outside {
			t.Errorf("the outside of %d, %d is %s, %v", e.i, e.j, pairTextByWords(got), ok)
		}
	}
	// Above or below alone, these are closed: 4, 5 and 3, 6 above, 3, 4 and 5, 6 below.
	for _, e := range [][2]int{{4, 5}, {3, 4}, {5, 6}, {1, 2}, {0, 2}, {1, 10}, {2, 8}} {
		if is, ok := impl.IsClosed(m, e[0], e[1]); is || !ok {
			t.Errorf("%d, %d is closed: %v, %v", e[0], e[1], is, ok)
		}
	}
	for _, e := range [][2]int{{1, 0}, {1, 1}, {0, 0}, {11, 11}, {11, 0}, {-1, 1}, {-1, 12}, {0, 12}, {11, 12}, {12, 13}, {8, 12}} {
		checkStretch(t, m, e[0], e[1])
	}
}

func TestPromise8ClosedStretches(t *testing.T) {
	for _, m := range pairsToCut() {
		want := closedByWords(m)
		if got, ok := impl.ClosedStretches(m); !ok || !sameLists(got, want) {
			t.Fatalf("ClosedStretches(%s) is %v, %v", pairTextByWords(m), got, ok)
		}
		i, j, ok := impl.ShortestClosed(m)
		if len(want) == 0 {
			mustNotSucceed(t, "the shortest one of a pair that has none", ok, i, j)
		} else if first := shortestByWords(m)[0]; !ok || i != first[0] || j != first[1] {
			t.Fatalf("ShortestClosed(%s) is %d, %d, %v", pairTextByWords(m), i, j, ok)
		}
		if is, ok := impl.IsWhole(m); !ok || is != isWholeByWords(m) {
			t.Fatalf("IsWhole(%s) is %v, %v", pairTextByWords(m), is, ok)
		}
	}
	flat := pairOfText("()()()|()()()")
	if all, ok := impl.ClosedStretches(flat); !ok || !sameLists(all, [][]int{{0, 1}, {0, 3}, {2, 3}, {2, 5}, {4, 5}}) {
		t.Error("the closed stretches of three curves next to each other", all, ok)
	}
	nested := pairOfText("((()))|((()))")
	if all, ok := impl.ClosedStretches(nested); !ok || !sameLists(all, [][]int{{1, 4}, {2, 3}}) {
		t.Error("the closed stretches of three curves inside of each other", all, ok)
	}
}

// TestPromise8Shortest has shortest stretches at the first and the last point, and
// shorter ones behind longer ones.
func TestPromise8Shortest(t *testing.T) {
	for text, want := range map[string][2]int{
		"()()|()()":                 {0, 1},
		"()(())|()()()":             {0, 1},
		"(())()|()()()":             {4, 5},
		"(())(())|()()()()":         {0, 3},
		"(())()()|(())()()":         {1, 2},
		"(())()()|()()()()":         {4, 5},
		"((()))()|(()())()":         {6, 7},
		"(()())(())()|(()())()()()": {1, 2},
		"((()))(())|()(())()()":     {6, 9},
		"(((())))|(((())))":         {3, 4},
		"()(()())|()(())()":         {0, 1},
	} {
		if i, j, ok := impl.ShortestClosed(pairOfText(text)); !ok || i != want[0] || j != want[1] {
			t.Errorf("ShortestClosed of %s is %d, %d, %v", text, i, j, ok)
		}
	}
}

func checkInsert(t *testing.T, m impl.Meander, at int, b impl.Meander) {
	t.Helper()
	got, ok := impl.InsertPair(m, at, b)
	text, other := pairTextByWords(m), pairTextByWords(b)
	if at < 0 || at > len(m.Top) || len(m.Top)+len(b.Top) > 12 {
		mustNotSucceed(t, other+" put into "+text, ok, got)
		return
	}
	if !ok || !sameResult(got, pairOfText(insertedByText(text, at, other))) {
		t.Fatalf("InsertPair(%s, %d, %s) is %v, %v", text, at, other, got, ok)
	}
	if len(curvesByWords(got)) != len(curvesByWords(m))+len(curvesByWords(b)) {
		t.Fatalf("InsertPair(%s, %d, %s): the components do not add up", text, at, other)
	}
	if len(b.Top) == 0 {
		return
	}
	last := at + len(b.Top) - 1
	inside, insideOk := impl.InsideOf(got, at, last)
	outside, outsideOk := impl.OutsideOf(got, at, last)
	if !insideOk || !outsideOk || !sameResult(inside, b) || !sameResult(outside, m) {
		t.Fatalf("InsertPair(%s, %d, %s) has %v inside and %v outside", text, at, other, inside, outside)
	}
}

func TestPromise8InsertPair(t *testing.T) {
	small := pairsUpTo(3)
	for _, m := range small {
		for _, b := range small {
			for at := -1; at <= len(m.Top)+1; at++ {
				checkInsert(t, m, at, b)
			}
		}
	}
	// All pairs of up to five arches, and from there on some of six.
	all := pairsToCut()
	for k, m := range all {
		for _, b := range []impl.Meander{{}, all[1], all[2+k%4], all[6+k%25], all[31+k%196], all[len(all)-1-k]} {
			for _, at := range []int{-1, 0, 1, k % (len(m.Top) + 1), len(m.Top) - 1, len(m.Top), len(m.Top) + 1} {
				checkInsert(t, m, at, b)
			}
		}
	}
	for _, at := range wildNumbers() {
		for _, b := range pairsUpTo(2) {
			checkInsert(t, impl.Meander{}, at, b)
			checkInsert(t, pairOfText("(()())|()(())"), at, b)
			checkInsert(t, pairOfText("(()(())())|()((()()))"), at, b)
			checkInsert(t, pairOfText("()(()(())())|()((()()))()"), at, b)
		}
	}
}

func TestPromise8InsertPairNamed(t *testing.T) {
	for _, e := range []struct {
		text  string
		at    int
		other string
		want  string
	}{
		{"()|()", 0, "(())|()()", "(())()|()()()"},
		{"()|()", 1, "(())|()()", "((()))|(()())"},
		{"()|()", 2, "(())|()()", "()(())|()()()"},
		{"(())|()()", 2, "()|()", "((()))|()()()"},
		{"(())|()()", 3, "", "(())|()()"},
		{"", 0, "(())|()()", "(())|()()"},
		{"", 0, "", "|"},
		{"()()()()()|((((()))))", 5, "()|()", "()()(())()()|(((((())))))"},
		{"((((()))))|()()()()()", 10, "()|()", "((((()))))()|()()()()()()"},
		{"((((()))))|()()()()()", 0, "()|()", "()((((()))))|()()()()()()"},
		{"", 0, "(((((())))))|()()()()()()", "(((((())))))|()()()()()()"},
		{"(((((())))))|()()()()()()", 7, "", "(((((())))))|()()()()()()"},
	} {
		got, ok := impl.InsertPair(pairOfText(e.text), e.at, pairOfText(e.other))
		if !ok || pairTextByWords(got) != e.want {
			t.Errorf("%s put into %s at %d is %s, %v", e.other, e.text, e.at, pairTextByWords(got), ok)
		}
	}
	for _, e := range []struct {
		text  string
		at    int
		other string
	}{
		{"((((()))))|()()()()()", 5, "(())|()()"},
		{"(((((())))))|()()()()()()", 0, "()|()"},
		{"()|()", 1, "(((((())))))|()()()()()()"},
		{"()|()", 3, "()|()"},
		{"()|()", -1, "()|()"},
		{"()|()", 3, ""},
		{"()|()", -1, ""},
		{"", 1, "()|()"},
		{"", -1, "()|()"},
		{"", 1, ""},
	} {
		got, ok := impl.InsertPair(pairOfText(e.text), e.at, pairOfText(e.other))
		mustNotSucceed(t, e.other+" put into "+e.text, ok, got)
	}
}

func TestPromise8InsertNoPairs(t *testing.T) {
	for what, m := range wildPairs() {
		for _, fine := range []impl.Meander{{}, pairOfText("()|()"), pairOfText("(((((())))))|()()()()()()")} {
			got, ok := impl.InsertPair(m, 0, fine)
			mustNotSucceed(t, "a pair put into what is "+what, ok, got)
			got, ok = impl.InsertPair(fine, 0, m)
			mustNotSucceed(t, "what is put into a pair, "+what, ok, got)
		}
		got, ok := impl.InsertPair(m, 0, m)
		mustNotSucceed(t, "what is put into itself, "+what, ok, got)
	}
	// These would be a pair if they were put together first.
	got, ok := impl.InsertPair(impl.Meander{Top: []int{1, 0}}, 0, impl.Meander{Bottom: []int{1, 0}})
	mustNotSucceed(t, "one below put into one above", ok, got)
}

func TestPromise8Whole(t *testing.T) {
	for n := 1; n <= 4; n++ {
		if got, ok := impl.AllWhole(n); !ok || !sameResult(got, wholeByWords(n)) {
			t.Errorf("AllWhole(%d) is %v, %v", n, textsOf(got), ok)
		}
	}
	series := wholeBySeries(5)
	for n, want := range map[int]int{1: 1, 2: 2, 3: 8, 4: 46, 5: 322} {
		if got, ok := impl.CountWhole(n); !ok || got != want || got != series[n] || got != len(wholeByWords(n)) {
			t.Errorf("CountWhole(%d) is %d, %v", n, got, ok)
		}
	}
}

func TestPromise8Pieces(t *testing.T) {
	for _, m := range pairsToCut() {
		if len(m.Top) == 0 {
			continue
		}
		text := pairTextByWords(m)
		first, last := piecesByWords(m, firstOf), piecesByWords(m, lastOf)
		pieces, ok := impl.PiecesOf(m)
		if !ok || !slices.Equal(textsOf(pieces), first) {
			t.Fatalf("PiecesOf(%s) is %v, %v", text, textsOf(pieces), ok)
		}
		if got, ok := impl.PiecesBack(m); !ok || !slices.Equal(textsOf(got), last) {
			t.Fatalf("PiecesBack(%s) is %v, %v", text, textsOf(got), ok)
		}
		if got, ok := impl.PieceTexts(m); !ok || !slices.Equal(got, sortedTexts(first)) || !slices.Equal(got, sortedTexts(last)) {
			t.Fatalf("PieceTexts(%s) is %v, %v", text, got, ok)
		}
		curves := 0
		for _, piece := range pieces {
			if is, ok := impl.IsWhole(piece); !is || !ok {
				t.Fatalf("PiecesOf(%s) has %s, which is not whole", text, pairTextByWords(piece))
			}
			curves += len(curvesByWords(piece))
		}
		if curves != len(curvesByWords(m)) {
			t.Fatalf("the components of the pieces of %s do not add up", text)
		}
	}
}

// TestPromise8AnyCuts takes all shortest stretches in turn, wherever there are some.
func TestPromise8AnyCuts(t *testing.T) {
	for k, m := range pairsToCut() {
		if len(m.Top) == 0 || len(m.Top) == 12 && k%8 != 0 {
			continue
		}
		texts, ok := impl.PieceTexts(m)
		all := allCuttings(m)
		if !ok || len(all) != 1 || !all[strings.Join(texts, " ")] {
			t.Fatalf("%s is cut to %v, PieceTexts is %v, %v", pairTextByWords(m), all, texts, ok)
		}
	}
}

// TestPromise8PiecesNamed has pieces that are cut off in other orders from the front
// and from the back.
func TestPromise8PiecesNamed(t *testing.T) {
	for _, e := range []struct {
		text  string
		first []string
		last  []string
		texts []string
	}{
		{"()()|()()", []string{"()|()", "()|()"}, []string{"()|()", "()|()"}, []string{"()|()", "()|()"}},
		{"()(())|()()()", []string{"()|()", "(())|()()"}, []string{"()|()", "(())|()()"}, []string{"(())|()()", "()|()"}},
		{"(())()()|()()(())", []string{"(())|()()", "()()|(())"}, []string{"()()|(())", "(())|()()"}, []string{"(())|()()", "()()|(())"}},
		{"()()(())|(())()()", []string{"()()|(())", "(())|()()"}, []string{"(())|()()", "()()|(())"}, []string{"(())|()()", "()()|(())"}},
		{"(()()())|()(())()", []string{"()|()", "(()())|()()()"}, []string{"()|()", "(()())|()()()"}, []string{"(()())|()()()", "()|()"}},
		{"(((())()))|()()()(())", []string{"(())|()()", "((()))|()(())"}, []string{"(())|()()", "((()))|()(())"}, []string{"((()))|()(())", "(())|()()"}},
		{
			"()()()((()))|()(())(()())",
			[]string{"()|()", "()()|(())", "(())|()()", "()|()"},
			[]string{"()|()", "(())|()()", "()|()", "()()|(())"},
			[]string{"(())|()()", "()()|(())", "()|()", "()|()"},
		},
	} {
		m := pairOfText(e.text)
		if got, ok := impl.PiecesOf(m); !ok || !slices.Equal(textsOf(got), e.first) {
			t.Errorf("PiecesOf %s is %v, %v", e.text, textsOf(got), ok)
		}
		if got, ok := impl.PiecesBack(m); !ok || !slices.Equal(textsOf(got), e.last) {
			t.Errorf("PiecesBack %s is %v, %v", e.text, textsOf(got), ok)
		}
		if got, ok := impl.PieceTexts(m); !ok || !slices.Equal(got, e.texts) {
			t.Errorf("PieceTexts %s is %v, %v", e.text, got, ok)
		}
	}
}

func TestPromise8CountByPieces(t *testing.T) {
	for n := 1; n <= 4; n++ {
		want := make([]int, n+1)
		for _, m := range pairsByWords(n) {
			want[len(piecesByWords(m, firstOf))]++
		}
		if got, ok := impl.CountByPieces(n); !ok || !sameList(got, want) {
			t.Errorf("CountByPieces(%d) is %v, %v", n, got, ok)
		}
		if whole, ok := impl.CountWhole(n); !ok || want[1] != whole {
			t.Errorf("%d pairs with %d arches have one piece, %d are whole", want[1], n, whole)
		}
		if simple, ok := impl.CountSimple(n); !ok || want[n] != simple {
			t.Errorf("%d pairs with %d arches have as many pieces, %d are simple", want[n], n, simple)
		}
	}
	for n, want := range map[int][]int{1: {0, 1}, 2: {0, 2, 2}} {
		if got, ok := impl.CountByPieces(n); !ok || !sameList(got, want) {
			t.Errorf("CountByPieces(%d) is %v, %v", n, got, ok)
		}
	}
}

// TestPromise8Simple knows that a pair is simple just if both systems are the same:
// it is then put together of pairs of one arch.
func TestPromise8Simple(t *testing.T) {
	for _, m := range pairsToCut() {
		if len(m.Top) == 0 {
			continue
		}
		want := true
		for _, piece := range piecesByWords(m, firstOf) {
			want = want && piece == "()|()"
		}
		if want != sameList(m.Top, m.Bottom) {
			t.Fatalf("the test takes %s for simple: %v", pairTextByWords(m), want)
		}
		if got, ok := impl.IsSimple(m); !ok || got != want {
			t.Fatalf("IsSimple(%s) is %v, %v", pairTextByWords(m), got, ok)
		}
	}
	for n, want := range map[int]int{1: 1, 2: 2, 3: 5, 4: 14} {
		if got, ok := impl.CountSimple(n); !ok || got != want {
			t.Errorf("CountSimple(%d) is %d, %v", n, got, ok)
		}
	}
}

func TestPromise8Limits(t *testing.T) {
	for _, n := range []int{math.MinInt, -5, -4, -1, 0, 5, 6, 7, 100, 1 << 40, math.MaxInt} {
		all, ok := impl.AllWhole(n)
		mustNotSucceed(t, "AllWhole", ok, all)
		counts, ok := impl.CountByPieces(n)
		mustNotSucceed(t, "CountByPieces", ok, counts)
		count, ok := impl.CountSimple(n)
		mustNotSucceed(t, "CountSimple", ok, count)
		if n != 5 {
			count, ok = impl.CountWhole(n)
			mustNotSucceed(t, "CountWhole", ok, count)
		}
	}
}
