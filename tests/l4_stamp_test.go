package tests

import (
	"math"
	"slices"
	"testing"

	"loop.example/g01126/impl"
)

// notStampCounts are no numbers of stamps, or of arches of semi-meanders.
func notStampCounts(most int) []int {
	return []int{math.MinInt, -1, 0, most + 1, most + 2, 100, math.MaxInt}
}

func TestPromise4IsFolding(t *testing.T) {
	for _, p := range stacksUpTo(8) {
		if is, ok := impl.IsFolding(p); !ok || is != isFoldingByWords(p) {
			t.Errorf("IsFolding(%v) is %v, %v", p, is, ok)
		}
	}
	for what, p := range wildStacks() {
		is, ok := impl.IsFolding(p)
		mustNotSucceed(t, "a folding of what is "+what, ok, is)
	}
	for length := range 5 {
		for _, p := range listsOf(length, -1, 4) {
			_, ok := impl.IsFolding(p)
			wantOk := length > 0
			for stamp := range length {
				wantOk = wantOk && slices.Contains(p, stamp)
			}
			if ok != wantOk {
				t.Errorf("IsFolding(%v) succeeds: %v", p, ok)
			}
		}
	}
}

func TestPromise4CrossedArcs(t *testing.T) {
	for _, p := range stacksUpTo(7) {
		if got, ok := impl.CrossedArcs(p); !ok || !sameLists(got, crossedByWords(p)) {
			t.Errorf("CrossedArcs(%v) is %v, %v", p, got, ok)
		}
	}
	examples := []struct {
		stack []int
		want  [][]int
	}{
		{[]int{0}, nil},
		{[]int{1, 0}, nil},
		{[]int{0, 2, 1, 3}, [][]int{{0, 2}}},
		{[]int{4, 1, 3, 2, 0}, [][]int{{1, 3}}},
		{[]int{0, 2, 4, 6, 1, 3, 5, 7}, [][]int{{0, 2}, {0, 4}, {0, 6}, {1, 3}, {1, 5}, {2, 4}, {2, 6}, {3, 5}, {4, 6}}},
	}
	for _, e := range examples {
		if got, ok := impl.CrossedArcs(e.stack); !ok || !sameLists(got, e.want) {
			t.Errorf("CrossedArcs(%v) is %v, %v", e.stack, got, ok)
		}
	}
	for what, p := range wildStacks() {
		got, ok := impl.CrossedArcs(p)
		mustNotSucceed(t, "crossed arcs of what is "+what, ok, got)
	}
}

func TestPromise4Counts(t *testing.T) {
	foldings := []int{1, 2, 6, 16, 50, 144, 462, 1392}
	onTop := []int{1, 1, 2, 4, 10, 24, 66, 174}
	for n := 1; n <= 8; n++ {
		all, top := foldingsByWords(n), onTopByWords(n)
		if len(all) != foldings[n-1] || len(top) != onTop[n-1] {
			t.Fatalf("the test finds %d and %d foldings of %d stamps", len(all), len(top), n)
		}
		if count, ok := impl.CountFoldings(n); !ok || count != len(all) {
			t.Errorf("CountFoldings(%d) is %d, %v", n, count, ok)
		}
		if count, ok := impl.CountOnTop(n); !ok || count != len(top) || count*n != len(all) {
			t.Errorf("CountOnTop(%d) is %d, %v", n, count, ok)
		}
	}
	for _, n := range notStampCounts(8) {
		count, ok := impl.CountFoldings(n)
		mustNotSucceed(t, "CountFoldings", ok, count)
		count, ok = impl.CountOnTop(n)
		mustNotSucceed(t, "CountOnTop", ok, count)
	}
}

func TestPromise4Lists(t *testing.T) {
	for n := 1; n <= 6; n++ {
		if got, ok := impl.AllFoldings(n); !ok || !sameLists(got, foldingsByWords(n)) {
			t.Errorf("AllFoldings(%d) is %v, %v", n, got, ok)
		}
	}
	for n := 1; n <= 8; n++ {
		if got, ok := impl.FoldingsOnTop(n); !ok || !sameLists(got, onTopByWords(n)) {
			t.Errorf("FoldingsOnTop(%d) is %v, %v", n, got, ok)
		}
	}
	for _, n := range append(notStampCounts(6), 7, 8) {
		got, ok := impl.AllFoldings(n)
		mustNotSucceed(t, "AllFoldings", ok, got)
	}
	for _, n := range notStampCounts(8) {
		got, ok := impl.FoldingsOnTop(n)
		mustNotSucceed(t, "FoldingsOnTop", ok, got)
	}
}

func TestPromise4AllAreTurnedFromThoseOnTop(t *testing.T) {
	for n := 1; n <= 8; n++ {
		top, ok := impl.FoldingsOnTop(n)
		if !ok {
			t.Fatalf("FoldingsOnTop(%d) fails", n)
		}
		var all [][]int
		for _, p := range top {
			for by := range n {
				turned, _ := impl.TurnFolding(p, by)
				all = append(all, turned)
			}
		}
		slices.SortFunc(all, slices.Compare[[]int])
		if !sameLists(all, foldingsByWords(n)) {
			t.Errorf("those with the stamp 0 of %d at the top are turned to %v", n, all)
		}
	}
}

func TestPromise4Turns(t *testing.T) {
	stacks := append(stacksUpTo(5), []int{0, 2, 4, 1, 3, 5}, []int{6, 0, 5, 1, 4, 2, 3}, []int{7, 0, 2, 4, 6, 1, 3, 5})
	for _, p := range stacks {
		n := len(p)
		for by := -100; by <= 100; by++ {
			want := make([]int, n)
			for k := range p {
				want[(k+by+1000*n)%n] = p[k]
			}
			got, ok := impl.TurnFolding(p, by)
			if !ok || !sameList(got, want) || isFoldingByWords(got) != isFoldingByWords(p) {
				t.Fatalf("TurnFolding(%v, %d) is %v, %v", p, by, got, ok)
			}
		}
		for _, by := range []int{-101, 101, -1000, 1000, math.MinInt, math.MaxInt} {
			got, ok := impl.TurnFolding(p, by)
			mustNotSucceed(t, "a turn by too much", ok, got)
		}
	}
	if got, ok := impl.TurnFolding([]int{0, 1, 2, 3}, 1); !ok || !sameList(got, []int{3, 0, 1, 2}) {
		t.Error("a turn by one", got)
	}
	for what, p := range wildStacks() {
		got, ok := impl.TurnFolding(p, 0)
		mustNotSucceed(t, "a turn of what is "+what, ok, got)
	}
}

func TestPromise4ReverseAndRenumber(t *testing.T) {
	for _, p := range append(stacksUpTo(6), stacksByWords(8)[:500]...) {
		n := len(p)
		backwards, renumbered := []int{}, []int{}
		for _, stamp := range p {
			backwards = append([]int{stamp}, backwards...)
			renumbered = append(renumbered, n-1-stamp)
		}
		got, ok := impl.ReverseFolding(p)
		if !ok || !sameList(got, backwards) || isFoldingByWords(got) != isFoldingByWords(p) {
			t.Errorf("ReverseFolding(%v) is %v, %v", p, got, ok)
		}
		got, ok = impl.RenumberFolding(p)
		if !ok || !sameList(got, renumbered) || isFoldingByWords(got) != isFoldingByWords(p) {
			t.Errorf("RenumberFolding(%v) is %v, %v", p, got, ok)
		}
	}
	for what, p := range wildStacks() {
		got, ok := impl.ReverseFolding(p)
		mustNotSucceed(t, "the reverse of what is "+what, ok, got)
		got, ok = impl.RenumberFolding(p)
		mustNotSucceed(t, "new numbers of what is "+what, ok, got)
	}
}

func TestPromise4AddStamp(t *testing.T) {
	for n := 1; n < 8; n++ {
		grown := map[string][][]int{}
		for _, p := range foldingsByWords(n + 1) {
			key := foldingTextByWords(withoutLast(p))
			grown[key] = append(grown[key], p)
		}
		for _, p := range foldingsByWords(n) {
			if got, ok := impl.AddStamp(p); !ok || len(got) == 0 || !sameLists(got, grown[foldingTextByWords(p)]) {
				t.Errorf("AddStamp(%v) is %v, %v", p, got, ok)
			}
		}
	}
	if got, ok := impl.AddStamp([]int{0}); !ok || !sameLists(got, [][]int{{0, 1}, {1, 0}}) {
		t.Error("AddStamp to one stamp", got, ok)
	}
	for _, p := range foldingsByWords(8) {
		got, ok := impl.AddStamp(p)
		mustNotSucceed(t, "a ninth stamp", ok, got)
	}
	for _, p := range stacksUpTo(6) {
		if !isFoldingByWords(p) {
			got, ok := impl.AddStamp(p)
			mustNotSucceed(t, "a stamp more to no folding", ok, got)
		}
	}
	for what, p := range wildStacks() {
		got, ok := impl.AddStamp(p)
		mustNotSucceed(t, "a stamp more to what is "+what, ok, got)
	}
}

func TestPromise4Semis(t *testing.T) {
	counts := []int{1, 1, 2, 4, 10, 24}
	for n := 1; n <= 6; n++ {
		for _, p := range systemsByWords(n) {
			if is, ok := impl.IsSemi(p); !ok || is != isSemiByWords(p) {
				t.Errorf("IsSemi(%v) is %v, %v", p, is, ok)
			}
		}
		if got, ok := impl.AllSemis(n); !ok || !sameLists(got, semisByWords(n)) || len(got) != counts[n-1] {
			t.Errorf("AllSemis(%d) is %v, %v", n, got, ok)
		}
	}
	for _, n := range notStampCounts(6) {
		got, ok := impl.AllSemis(n)
		mustNotSucceed(t, "AllSemis", ok, got)
	}
	for _, p := range [][]int{nil, {}} {
		is, ok := impl.IsSemi(p)
		mustNotSucceed(t, "no arch as a semi-meander", ok, is)
	}
	for what, p := range wildLists() {
		is, ok := impl.IsSemi(p)
		mustNotSucceed(t, "a semi-meander of what is "+what, ok, is)
	}
}

func TestPromise4FoldingsOfSemis(t *testing.T) {
	for n := 1; n <= 6; n++ {
		var foldings [][]int
		for _, p := range systemsByWords(n) {
			got, ok := impl.FoldingOfSemi(p)
			if !isSemiByWords(p) {
				mustNotSucceed(t, "the folding of no semi-meander", ok, got)
				continue
			}
			want := foldingOfSemiByWords(p)
			if !ok || !sameList(got, want) {
				t.Errorf("FoldingOfSemi(%v) is %v, %v", p, got, ok)
			}
			foldings = append(foldings, want)
			if back, ok := impl.SemiOfFolding(want); !ok || !sameList(back, p) {
				t.Errorf("SemiOfFolding(%v) is %v, %v", want, back, ok)
			}
		}
		slices.SortFunc(foldings, slices.Compare[[]int])
		if !sameLists(foldings, onTopByWords(n)) {
			t.Errorf("the foldings of the semi-meanders of %d arches are %v", n, foldings)
		}
	}
	for _, p := range [][]int{nil, {}} {
		got, ok := impl.FoldingOfSemi(p)
		mustNotSucceed(t, "the folding of no arch", ok, got)
	}
	for what, p := range wildLists() {
		got, ok := impl.FoldingOfSemi(p)
		mustNotSucceed(t, "the folding of what is "+what, ok, got)
	}
}

func TestPromise4SemisOfFoldings(t *testing.T) {
	for _, p := range stacksUpTo(7) {
		got, ok := impl.SemiOfFolding(p)
		if len(p) > 6 || p[0] != 0 || !isFoldingByWords(p) {
			mustNotSucceed(t, "the semi-meander of no folding with the stamp 0 at the top", ok, got)
		} else if !ok || !isSystemByWords(got) || !isSemiByWords(got) || !sameList(foldingOfSemiByWords(got), p) {
			t.Errorf("SemiOfFolding(%v) is %v, %v", p, got, ok)
		}
	}
	for _, p := range onTopByWords(8) {
		got, ok := impl.SemiOfFolding(p)
		mustNotSucceed(t, "the semi-meander of eight stamps", ok, got)
	}
	if got, ok := impl.SemiOfFolding([]int{0}); !ok || !sameList(got, []int{1, 0}) {
		t.Error("the semi-meander of one stamp", got, ok)
	}
	for what, p := range wildStacks() {
		got, ok := impl.SemiOfFolding(p)
		mustNotSucceed(t, "the semi-meander of what is "+what, ok, got)
	}
}

func TestPromise4Windings(t *testing.T) {
	for _, p := range systemsUpTo(6) {
		if got, ok := impl.WindingOf(p); !ok || got != windingByWords(p) {
			t.Errorf("WindingOf(%v) is %v, %v", p, got, ok)
		}
	}
	if got, ok := impl.WindingOf(rainbowByWords(6)); !ok || got != 6 {
		t.Error("the winding of a rainbow", got, ok)
	}
	if got, ok := impl.WindingOf(nil); !ok || got != 0 {
		t.Error("the winding of no arch", got, ok)
	}
	for what, p := range wildLists() {
		got, ok := impl.WindingOf(p)
		mustNotSucceed(t, "the winding of what is "+what, ok, got)
	}
	for n := 1; n <= 6; n++ {
		want := make([]int, n+1)
		for _, p := range semisByWords(n) {
			want[windingByWords(p)]++
		}
		if got, ok := impl.SpreadOfWindings(n); !ok || !sameList(got, want) {
			t.Errorf("SpreadOfWindings(%d) is %v, %v", n, got, ok)
		}
	}
	for _, n := range notStampCounts(6) {
		got, ok := impl.SpreadOfWindings(n)
		mustNotSucceed(t, "SpreadOfWindings", ok, got)
	}
}

func TestPromise4Texts(t *testing.T) {
	for _, p := range append(stacksUpTo(6), stacksByWords(8)[12000:12500]...) {
		text := foldingTextByWords(p)
		if got, ok := impl.FoldingText(p); !ok || got != text {
			t.Errorf("FoldingText(%v) is %q, %v", p, got, ok)
		}
		if got, ok := impl.ParseFolding(text); !ok || !sameList(got, p) {
			t.Errorf("ParseFolding(%q) is %v, %v", text, got, ok)
		}
	}
	for what, p := range wildStacks() {
		got, ok := impl.FoldingText(p)
		mustNotSucceed(t, "the text of what is "+what, ok, got)
	}
}

func TestPromise4NoTexts(t *testing.T) {
	texts := map[string]bool{}
	for _, p := range stacksUpTo(3) {
		texts[foldingTextByWords(p)] = true
	}
	signs := "\x00 +-,/0123:a\x7f\x80\xb0\xff"
	wild := []string{""}
	for range 3 {
		for _, s := range slices.Clone(wild) {
			for i := range len(signs) {
				wild = append(wild, s+signs[i:i+1])
			}
		}
	}
	for _, s := range wild {
		if got, ok := impl.ParseFolding(s); ok != texts[s] || ok && foldingTextByWords(got) != s || !ok && len(got) > 0 {
			t.Errorf("ParseFolding(%q) is %v, %v", s, got, ok)
		}
	}
	for _, s := range []string{"012345678", "876543210", "01234568", "012345677", "0123456700", "01234567 ", "٠", "０"} {
		got, ok := impl.ParseFolding(s)
		mustNotSucceed(t, "the stack of "+s, ok, got)
	}
}
