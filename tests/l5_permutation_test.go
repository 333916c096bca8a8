package tests

import (
	"math"
	"slices"
	"testing"

	"loop.example/g01126/impl"
)

func TestPromise5Examples(t *testing.T) {
	m := impl.Meander{Top: []int{3, 2, 1, 0}, Bottom: []int{1, 0, 3, 2}}
	if w, ok := impl.PermutationOf(m); !ok || !sameList(w, []int{0, 3, 2, 1}) {
		t.Error("the word of (())|()()", w, ok)
	}
	if got, ok := impl.FromPermutation([]int{0, 3, 2, 1}); !ok || !sameResult(got, m) {
		t.Error("the meander of 0 3 2 1", got, ok)
	}
	if c, ok := impl.CrossingOf([]int{0, 2, 1, 3}); !ok || !sameList(c, []int{0, 1, 2, 3}) {
		t.Error("the crossing of 0 2 1 3", c, ok)
	}
	if is, ok := impl.IsOpenPermutation([]int{0, 2, 1, 3}); !ok || is {
		t.Error("0 2 1 3 is open", is, ok)
	}
	if is, ok := impl.IsOpenPermutation([]int{0, 1, 3, 2}); !ok || !is {
		t.Error("0 1 3 2 is open", is, ok)
	}
	if is, ok := impl.IsPermutation([]int{0, 1, 3, 2}); !ok || is {
		t.Error("0 1 3 2 is of a meander", is, ok)
	}
	if next, ok := impl.CycleOf(m); !ok || !sameList(next, []int{3, 0, 1, 2}) {
		t.Error("the cycle of (())|()()", next, ok)
	}
}

func TestPromise5WordsOfMeanders(t *testing.T) {
	counts := []int{0, 1, 2, 8, 42, 262, 1828}
	for n, want := range counts {
		count := 0
		for _, m := range pairsByWords(n) {
			got, ok := impl.PermutationOf(m)
			if n == 0 || len(curvesByWords(m)) != 1 {
				mustNotSucceed(t, "the word of no meander", ok, got)
				continue
			}
			count++
			if !ok || !sameList(got, wayByWords(m, 0)) {
				t.Errorf("PermutationOf(%v) is %v, %v", m, got, ok)
			}
		}
		if count != want {
			t.Errorf("there are %d meanders with %d arches above", count, n)
		}
	}
	for what, m := range wildPairs() {
		got, ok := impl.PermutationOf(m)
		mustNotSucceed(t, "the word of what is "+what, ok, got)
	}
}

func TestPromise5MeandersOfWords(t *testing.T) {
	for _, closed := range slices.Concat(closedWords()...) {
		if got, ok := impl.FromPermutation(closed.word); !ok || !sameResult(got, closed.meander) {
			t.Errorf("FromPermutation(%v) is %v, %v", closed.word, got, ok)
		}
		if is, ok := impl.IsPermutation(closed.word); !ok || !is {
			t.Errorf("IsPermutation(%v) is %v, %v", closed.word, is, ok)
		}
	}
	for _, w := range wordsToTry() {
		want, found := meanderOfWord(w)
		if got, ok := impl.FromPermutation(w); ok != found || !sameResult(got, want) {
			t.Errorf("FromPermutation(%v) is %v, %v", w, got, ok)
		}
		if is, ok := impl.IsPermutation(w); !ok || is != found {
			t.Errorf("IsPermutation(%v) is %v, %v", w, is, ok)
		}
	}
	for what, w := range wildWords() {
		got, ok := impl.FromPermutation(w)
		mustNotSucceed(t, "the meander of what is "+what, ok, got)
	}
}

// TestPromise5NotClosed has a word for each condition that alone keeps it from
// closing.
func TestPromise5NotClosed(t *testing.T) {
	words := map[string][]int{
		"nil":                            nil,
		"empty":                          {},
		"one number":                     {0},
		"an odd number":                  {0, 1, 2},
		"two, not from 0":                {1, 0},
		"four, not from 0":               {3, 2, 1, 0},
		"joins above cross":              {0, 2, 1, 3},
		"joins below cross":              {0, 3, 1, 4, 2, 5},
		"the last join crosses one":      {0, 1, 3, 2},
		"the last join crosses a second": {0, 1, 2, 5, 3, 4},
		"not from 0, of the most":        {1, 2, 3, 4, 5, 6, 7, 8, 9, 10, 11, 0},
		"odd, one less than the most":    {0, 1, 2, 3, 4, 5, 6, 7, 8, 9, 10},
	}
	for what, w := range words {
		if is, ok := impl.IsPermutation(w); !ok || is {
			t.Errorf("a word with %s is of a meander: %v, %v", what, is, ok)
		}
		got, ok := impl.FromPermutation(w)
		mustNotSucceed(t, "the meander of a word with "+what, ok, got)
		sides, ok := impl.PositionsOf(w)
		mustNotSucceed(t, "the positions of a word with "+what, ok, sides)
	}
}

// checkAnyList checks what is told of lists that may be no words.
func checkAnyList(t *testing.T, w []int) {
	t.Helper()
	wantOk := len(w) <= 12
	_, found := meanderOfWord(w)
	if is, ok := impl.IsPermutation(w); ok != wantOk || is != found {
		t.Errorf("IsPermutation of %d numbers is %v, %v", len(w), is, ok)
	}
	if is, ok := impl.IsOpenPermutation(w); ok != wantOk || is != isOpenByWords(w) {
		t.Errorf("IsOpenPermutation of %d numbers is %v, %v", len(w), is, ok)
	}
}

func TestPromise5AnyLists(t *testing.T) {
	for length := range 6 {
		for _, w := range listsOf(length, -1, 5) {
			checkAnyList(t, w)
		}
	}
	for _, w := range wildWords() {
		checkAnyList(t, w)
	}
	if is, ok := impl.IsOpenPermutation(nil); !ok || !is {
		t.Error("a word that is empty is not open", is, ok)
	}
	if is, ok := impl.IsPermutation(nil); !ok || is {
		t.Error("a word that is empty is of a meander", is, ok)
	}
	twelve := []int{0, 1, 2, 3, 4, 5, 6, 7, 8, 9, 10, 11}
	if is, ok := impl.IsOpenPermutation(twelve); !ok || !is {
		t.Error("twelve numbers in a row are not open", is, ok)
	}
	if is, ok := impl.IsPermutation(twelve); !ok || !is {
		t.Error("twelve numbers in a row are of no meander", is, ok)
	}
}

func TestPromise5Crossings(t *testing.T) {
	for _, w := range wordsToTry() {
		all := crossingsByWords(w)
		if is, ok := impl.IsOpenPermutation(w); !ok || is != (len(all) == 0) {
			t.Errorf("IsOpenPermutation(%v) is %v, %v", w, is, ok)
		}
		got, ok := impl.CrossingOf(w)
		if len(all) == 0 {
			mustNotSucceed(t, "the crossing of an open word", ok, got)
		} else if !ok || !sameList(got, all[0]) {
			t.Errorf("CrossingOf(%v) is %v, %v, not %v", w, got, ok, all[0])
		}
	}
	examples := []struct{ word, want []int }{
		{[]int{0, 3, 1, 4, 2}, []int{1, 2, 3, 4}},
		{[]int{0, 3, 1, 4, 2, 5}, []int{0, 1, 2, 3}},
		{[]int{0, 5, 1, 4, 2, 6, 3}, []int{0, 1, 4, 5}},
		{[]int{5, 1, 6, 2, 7, 0, 4, 3}, []int{0, 1, 2, 3}},
		{[]int{0, 1, 2, 3, 4, 5, 6, 7, 9, 11, 8, 10}, []int{8, 9, 10, 11}},
		{[]int{0, 1, 2, 3, 4, 5, 6, 8, 7, 9}, []int{6, 7, 8, 9}},
	}
	for _, e := range examples {
		all := crossingsByWords(e.word)
		got, ok := impl.CrossingOf(e.word)
		if len(all) == 0 || !sameList(all[0], got) {
			t.Errorf("CrossingOf(%v) is %v, %v; crossings are %v", e.word, got, ok, all)
		}
	}
	for what, w := range wildWords() {
		got, ok := impl.CrossingOf(w)
		mustNotSucceed(t, "the crossing of what is "+what, ok, got)
	}
}

func TestPromise5OpenWords(t *testing.T) {
	counts := []int{1, 1, 2, 6, 16, 50, 144, 462}
	for n, want := range counts {
		words := slices.DeleteFunc(stacksByWords(n), func(w []int) bool { return !isOpenByWords(w) })
		if len(words) != want {
			t.Fatalf("the test finds %d open words of %d numbers", len(words), n)
		}
		if got, ok := impl.OpenPermutations(n); !ok || !sameLists(got, words) {
			t.Errorf("OpenPermutations(%d) is %v, %v", n, got, ok)
		}
		if count, ok := impl.CountOpen(n); !ok || count != want {
			t.Errorf("CountOpen(%d) is %d, %v", n, count, ok)
		}
	}
	for _, n := range []int{math.MinInt, -7, -1, 8, 9, 12, 13, 100, math.MaxInt} {
		got, ok := impl.OpenPermutations(n)
		mustNotSucceed(t, "OpenPermutations", ok, got)
		count, ok := impl.CountOpen(n)
		mustNotSucceed(t, "CountOpen", ok, count)
	}
}

// TestPromise5OpenWordsAreFoldings takes the points of a line for the places of a
// stack: a word tells the place of each stamp, and a stack the stamp at each place.
func TestPromise5OpenWordsAreFoldings(t *testing.T) {
	for n := 1; n <= 6; n++ {
		var stacks [][]int
		words, _ := impl.OpenPermutations(n)
		for _, w := range words {
			stack, ok := impl.InverseOf(w)
			if !ok {
				t.Errorf("InverseOf(%v) fails", w)
			}
			stacks = append(stacks, stack)
		}
		slices.SortFunc(stacks, slices.Compare[[]int])
		if !sameLists(stacks, foldingsByWords(n)) {
			t.Errorf("the open words of %d numbers are the foldings %v", n, stacks)
		}
	}
}

func TestPromise5Moves(t *testing.T) {
	zigzag := []int{11, 0, 10, 1, 9, 2, 8, 3, 7, 4, 6, 5}
	for _, w := range append(slices.Clone(wordsToTry()), zigzag) {
		k := len(w)
		inverse, backwards, mirrored := make([]int, k), make([]int, k), make([]int, k)
		for i, number := range w {
			inverse[number] = i
			backwards[k-1-i] = number
			mirrored[i] = k - 1 - number
		}
		if got, ok := impl.InverseOf(w); !ok || !sameList(got, inverse) {
			t.Fatalf("InverseOf(%v) is %v, %v", w, got, ok)
		}
		if got, ok := impl.BackwardsOf(w); !ok || !sameList(got, backwards) {
			t.Fatalf("BackwardsOf(%v) is %v, %v", w, got, ok)
		}
		if got, ok := impl.MirrorPermutation(w); !ok || !sameList(got, mirrored) {
			t.Fatalf("MirrorPermutation(%v) is %v, %v", w, got, ok)
		}
	}
	for what, w := range wildWords() {
		got, ok := impl.InverseOf(w)
		mustNotSucceed(t, "the inverse of what is "+what, ok, got)
		got, ok = impl.BackwardsOf(w)
		mustNotSucceed(t, "backwards what is "+what, ok, got)
		got, ok = impl.MirrorPermutation(w)
		mustNotSucceed(t, "the mirror of what is "+what, ok, got)
	}
}

func TestPromise5Cycles(t *testing.T) {
	for n := range 7 {
		for _, m := range pairsByWords(n) {
			got, ok := impl.CycleOf(m)
			if n == 0 || len(curvesByWords(m)) != 1 {
				mustNotSucceed(t, "the cycle of no meander", ok, got)
				continue
			}
			way := append(wayByWords(m, 0), 0)
			want := make([]int, 2*n)
			for i := range 2 * n {
				want[way[i]] = way[i+1]
			}
			if !ok || !sameList(got, want) {
				t.Errorf("CycleOf(%v) is %v, %v", m, got, ok)
			}
		}
	}
	for what, m := range wildPairs() {
		got, ok := impl.CycleOf(m)
		mustNotSucceed(t, "the cycle of what is "+what, ok, got)
	}
}

func TestPromise5OpenToClosed(t *testing.T) {
	for _, w := range wordsToTry() {
		got, ok := impl.OpenToClosed(w)
		if len(w)%2 == 0 {
			mustNotSucceed(t, "an even word with a number more", ok, got)
			continue
		}
		want, found := meanderOfWord(append(slices.Clone(w), len(w)))
		if ok != found || !sameResult(got, want) {
			t.Errorf("OpenToClosed(%v) is %v, %v", w, got, ok)
		}
		if ok && (!isOpenByWords(w) || w[0] != 0) {
			t.Errorf("OpenToClosed(%v) closes it", w)
		}
	}
	twelve := []int{0, 1, 2, 3, 4, 5, 6, 7, 8, 9, 10, 11}
	if got, ok := impl.OpenToClosed(twelve[:11]); !ok || !sameList(wayByWords(got, 0), twelve) {
		t.Error("eleven numbers in a row and one more", got, ok)
	}
	for what, w := range map[string][]int{
		"nil":                  nil,
		"empty":                {},
		"even":                 {0, 1},
		"not from 0":           {1, 0, 2},
		"not from 0, and back": {2, 1, 0},
		"not free above":       {0, 2, 1},
		"not open above":       {0, 2, 1, 3, 4},
		"not open below":       {0, 3, 1, 4, 2},
		"the most":             twelve,
	} {
		got, ok := impl.OpenToClosed(w)
		mustNotSucceed(t, "a number more for what is "+what, ok, got)
	}
	for what, w := range wildWords() {
		got, ok := impl.OpenToClosed(w)
		mustNotSucceed(t, "a number more for what is "+what, ok, got)
	}
}

func TestPromise5ClosedToOpen(t *testing.T) {
	for _, closed := range slices.Concat(closedWords()...) {
		last := len(closed.word) - 1
		got, ok := impl.ClosedToOpen(closed.meander)
		if closed.word[last] != last {
			mustNotSucceed(t, "a word without a last number that is elsewhere", ok, got)
			continue
		}
		if !ok || !sameList(got, closed.word[:last]) || !isOpenByWords(got) {
			t.Errorf("ClosedToOpen(%v) is %v, %v", closed.meander, got, ok)
		}
		if back, ok := impl.OpenToClosed(got); !ok || !sameResult(back, closed.meander) {
			t.Errorf("OpenToClosed(%v) is %v, %v", got, back, ok)
		}
	}
	for _, m := range pairsUpTo(5) {
		if len(m.Top) == 0 || len(curvesByWords(m)) != 1 {
			got, ok := impl.ClosedToOpen(m)
			mustNotSucceed(t, "an open word of no meander", ok, got)
		}
	}
	for what, m := range wildPairs() {
		got, ok := impl.ClosedToOpen(m)
		mustNotSucceed(t, "an open word of what is "+what, ok, got)
	}
}

func TestPromise5Positions(t *testing.T) {
	for _, w := range wordsToTry() {
		got, ok := impl.PositionsOf(w)
		if _, found := meanderOfWord(w); !found {
			mustNotSucceed(t, "the positions of no word of a meander", ok, got)
			continue
		}
		want := make([]int, len(w))
		for i, number := range w {
			want[number] = i % 2
		}
		if !ok || !sameList(got, want) {
			t.Errorf("PositionsOf(%v) is %v, %v", w, got, ok)
		}
		for number := range got {
			if got[number] != number%2 {
				t.Errorf("PositionsOf(%v) is %v", w, got)
			}
		}
	}
	for what, w := range wildWords() {
		got, ok := impl.PositionsOf(w)
		mustNotSucceed(t, "the positions of what is "+what, ok, got)
	}
}
