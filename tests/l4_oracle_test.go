package tests

import (
	"math"
	"slices"

	"loop.example/g01126/impl"
)

// stacksByWords returns all stacks of n stamps, in order: each stamp in turn is
// at the top of all stacks of the other ones.
func stacksByWords(n int) [][]int {
	var all [][]int
	var put func(top []int)
	put = func(top []int) {
		if len(top) == n {
			all = append(all, slices.Clone(top))
			return
		}
		for stamp := range n {
			if !slices.Contains(top, stamp) {
				put(append(top, stamp))
			}
		}
	}
	put(nil)
	return all
}

// stacksUpTo returns all stacks of at most n stamps.
func stacksUpTo(n int) [][]int {
	var all [][]int
	for k := 1; k <= n; k++ {
		all = append(all, stacksByWords(k)...)
	}
	return all
}

// crossedByWords follows the words of the document: the joints of each pair are
// looked for at all places a < c < b < d.
func crossedByWords(p []int) [][]int {
	crossed := [][]int{}
	n := len(p)
	for a := range n {
		for c := a + 1; c < n; c++ {
			for b := c + 1; b < n; b++ {
				for d := b + 1; d < n; d++ {
					i, j := min(p[a], p[b]), min(p[c], p[d])
					joined := max(p[a], p[b]) == i+1 && max(p[c], p[d]) == j+1
					if joined && i%2 == j%2 {
						crossed = append(crossed, []int{min(i, j), max(i, j)})
					}
				}
			}
		}
	}
	slices.SortFunc(crossed, slices.Compare[[]int])
	return crossed
}

func isFoldingByWords(p []int) bool {
	return len(crossedByWords(p)) == 0
}

// foldingsByWords returns all foldings of n stamps, in order.
func foldingsByWords(n int) [][]int {
	return slices.DeleteFunc(stacksByWords(n), func(p []int) bool { return !isFoldingByWords(p) })
}

// onTopByWords returns those of them that have the stamp 0 at the top.
func onTopByWords(n int) [][]int {
	return slices.DeleteFunc(foldingsByWords(n), func(p []int) bool { return p[0] != 0 })
}

// withoutLast returns a stack without its last stamp.
func withoutLast(p []int) []int {
	return slices.DeleteFunc(slices.Clone(p), func(stamp int) bool { return stamp == len(p)-1 })
}

func rainbowByWords(n int) []int {
	p := make([]int, 2*n)
	for i := range p {
		p[i] = 2*n - 1 - i
	}
	return p
}

func isSemiByWords(p []int) bool {
	m := impl.Meander{Top: p, Bottom: rainbowByWords(len(p) / 2)}
	return len(p) > 0 && len(curvesByWords(m)) == 1
}

// semisByWords returns all semi-meanders of n arches, in order.
func semisByWords(n int) [][]int {
	return slices.DeleteFunc(systemsByWords(n), func(p []int) bool { return !isSemiByWords(p) })
}

// foldingOfSemiByWords goes from crossing to crossing, told with its side, as the
// document does.
func foldingOfSemiByWords(p []int) []int {
	n := len(p) / 2
	pointAt := func(crossing int, right bool) int {
		if right {
			return n + crossing
		}
		return n - 1 - crossing
	}
	order := []int{}
	crossing, right := 0, true
	for !slices.Contains(order, crossing) {
		order = append(order, crossing)
		end := p[pointAt(crossing, right)]
		for j := range n {
			if pointAt(j, true) == end {
				crossing, right = j, false
			} else if pointAt(j, false) == end {
				crossing, right = j, true
			}
		}
	}
	return order
}

func windingByWords(p []int) int {
	winding := 0
	for i, j := range p {
		if i < len(p)/2 && j >= len(p)/2 {
			winding++
		}
	}
	return winding
}

func foldingTextByWords(p []int) string {
	text := ""
	for _, stamp := range p {
		text += []string{"0", "1", "2", "3", "4", "5", "6", "7"}[stamp]
	}
	return text
}

// wildStacks are no stacks, for one reason each.
func wildStacks() map[string][]int {
	long := make([]int, 100000)
	for i := range long {
		long[i] = i
	}
	return map[string][]int{
		"nil":                nil,
		"empty":              {},
		"one, but not 0":     {1},
		"negative":           {-1},
		"twice the same":     {0, 0},
		"twice 1":            {0, 1, 1},
		"without 0":          {1, 2},
		"without 1":          {0, 2},
		"one too great":      {2, 0, 3},
		"one too small":      {0, 1, -1, 2},
		"great":              {0, math.MaxInt},
		"least":              {math.MinInt, 0},
		"eight, twice 7":     {0, 1, 2, 3, 4, 5, 7, 7},
		"eight, 8 for 7":     {0, 1, 2, 3, 4, 5, 6, 8},
		"nine":               {0, 1, 2, 3, 4, 5, 6, 7, 8},
		"nine of eight":      {0, 1, 2, 3, 4, 5, 6, 7, 7},
		"nine, all that fit": {8, 7, 6, 5, 4, 3, 2, 1, 0},
		"very long":          long,
	}
}
