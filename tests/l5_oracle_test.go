package tests

import (
	"cmp"
	"fmt"
	"math"
	"slices"
	"sync"

	"loop.example/g01126/impl"
)

// wordsUpTo returns all words of at most n numbers.
func wordsUpTo(n int) [][]int {
	return append([][]int{{}}, stacksUpTo(n)...)
}

func isWordByWords(w []int) bool {
	if len(w) > 12 {
		return false
	}
	for number := range w {
		if !slices.Contains(w, number) {
			return false
		}
	}
	return true
}

// crossByWords looks at the ends of both joins from the left to the right: they
// cross if an end of each one comes in turn.
func crossByWords(a, b, c, d int) bool {
	order := ""
	for number := range 12 {
		switch number {
		case a, b:
			order += "x"
		case c, d:
			order += "y"
		}
	}
	return order == "xyxy" || order == "yxyx"
}

// crossingsByWords returns all pairs of joins that cross, above or below, by the
// second one, then by the first one.
func crossingsByWords(w []int) [][]int {
	var all [][]int
	for i := 0; i+1 < len(w); i++ {
		for j := i + 2; j+1 < len(w); j += 2 {
			if crossByWords(w[i], w[i+1], w[j], w[j+1]) {
				all = append(all, []int{i, i + 1, j, j + 1})
			}
		}
	}
	slices.SortFunc(all, func(a, b []int) int {
		return cmp.Or(cmp.Compare(a[2], b[2]), cmp.Compare(a[0], b[0]))
	})
	return all
}

func isOpenByWords(w []int) bool {
	return isWordByWords(w) && len(crossingsByWords(w)) == 0
}

func wordKey(w []int) string {
	return fmt.Sprint(slices.Concat([]int{}, w))
}

// closedWord is the word of a meander.
type closedWord struct {
	word    []int
	meander impl.Meander
}

// closedWords returns the words of all meanders, walked, by the numbers of arches.
var closedWords = sync.OnceValue(func() [][]closedWord {
	all := make([][]closedWord, 7)
	for n := range all {
		for _, m := range meandersByWords(n) {
			all[n] = append(all[n], closedWord{wayByWords(m, 0), m})
		}
	}
	return all
})

// meandersByWord tells the meanders by the keys of their words.
var meandersByWord = sync.OnceValue(func() map[string]impl.Meander {
	found := map[string]impl.Meander{}
	for _, closed := range slices.Concat(closedWords()...) {
		found[wordKey(closed.word)] = closed.meander
	}
	return found
})

// meanderOfWord looks for a meander with a word among all there are.
func meanderOfWord(w []int) (impl.Meander, bool) {
	m, found := meandersByWord()[wordKey(w)]
	return m, found
}

// swapped returns all words that a word becomes if two of its numbers change
// places, and the word itself.
func swapped(w []int) [][]int {
	all := [][]int{w}
	for j := range w {
		for i := range j {
			other := slices.Clone(w)
			other[i], other[j] = other[j], other[i]
			all = append(all, other)
		}
	}
	return all
}

// wordsToTry returns all words of at most 8 numbers, and of more those of meanders
// with two numbers swapped, and the same without the last number.
var wordsToTry = sync.OnceValue(func() [][]int {
	all := wordsUpTo(8)
	for n := 5; n <= 6; n++ {
		words := closedWords()[n]
		for k := 0; k < len(words); k += 3 {
			for _, w := range swapped(words[k].word) {
				all = append(all, w)
				if shorter := w[:len(w)-1]; isWordByWords(shorter) {
					all = append(all, shorter)
				}
			}
		}
	}
	return all
})

// wildWords are no words, for one reason each.
func wildWords() map[string][]int {
	long := make([]int, 100000)
	for i := range long {
		long[i] = i
	}
	return map[string][]int{
		"one, but not 0":          {1},
		"negative":                {-1},
		"negative 0":              {-1, 1},
		"twice 0":                 {0, 0},
		"twice 1":                 {0, 1, 1},
		"twice 2":                 {0, 2, 1, 2},
		"without 0":               {1, 2},
		"without 1":               {0, 2},
		"one too great":           {0, 3, 2, 4},
		"one too small":           {0, 3, 2, -1},
		"great":                   {0, math.MaxInt},
		"least":                   {math.MinInt, 0},
		"round the world":         {0, 1 << 32},
		"twelve, twice 11":        {0, 1, 2, 3, 4, 5, 6, 7, 8, 9, 11, 11},
		"twelve, 12 for 11":       {0, 1, 2, 3, 4, 5, 6, 7, 8, 9, 10, 12},
		"twelve zeros":            {0, 0, 0, 0, 0, 0, 0, 0, 0, 0, 0, 0},
		"thirteen":                {0, 1, 2, 3, 4, 5, 6, 7, 8, 9, 10, 11, 12},
		"thirteen backwards":      {12, 11, 10, 9, 8, 7, 6, 5, 4, 3, 2, 1, 0},
		"thirteen, 11 twice":      {0, 1, 2, 3, 4, 5, 6, 7, 8, 9, 10, 11, 11},
		"fourteen, of a rainbow":  {0, 13, 12, 11, 10, 9, 8, 7, 6, 5, 4, 3, 2, 1},
		"fourteen, all in a row":  {0, 1, 2, 3, 4, 5, 6, 7, 8, 9, 10, 11, 12, 13},
		"thirteen, all the same":  {5, 5, 5, 5, 5, 5, 5, 5, 5, 5, 5, 5, 5},
		"thirteen, far too great": {math.MaxInt, 1, 2, 3, 4, 5, 6, 7, 8, 9, 10, 11, 12},
		"very long":               long,
	}
}
