package tests

import (
	"slices"
)

// matchings returns all ways to join 2 n points in pairs, crossing or not.
func matchings(n int) [][]int {
	p := make([]int, 2*n)
	for i := range p {
		p[i] = -1
	}
	var all [][]int
	var join func()
	join = func() {
		i := slices.Index(p, -1)
		if i < 0 {
			all = append(all, slices.Clone(p))
			return
		}
		for j := i + 1; j < len(p); j++ {
			if p[j] == -1 {
				p[i], p[j] = j, i
				join()
				p[i], p[j] = -1, -1
			}
		}
	}
	join()
	return all
}

// isSystemByWords follows the words of the document, point by point.
func isSystemByWords(p []int) bool {
	if len(p)%2 != 0 || len(p) > 12 {
		return false
	}
	for i, j := range p {
		if j < 0 || j >= len(p) || j == i || p[j] != i {
			return false
		}
	}
	for a := range p {
		for b := a + 1; b < len(p); b++ {
			for c := b + 1; c < len(p); c++ {
				for d := c + 1; d < len(p); d++ {
					if p[a] == c && p[b] == d {
						return false
					}
				}
			}
		}
	}
	return true
}

// systemsByWords returns all systems of n arches, sorted.
func systemsByWords(n int) [][]int {
	var all [][]int
	for _, p := range matchings(n) {
		if isSystemByWords(p) {
			all = append(all, p)
		}
	}
	slices.SortFunc(all, slices.Compare[[]int])
	return all
}

// systemsUpTo returns all systems of at most n arches.
func systemsUpTo(n int) [][]int {
	var all [][]int
	for k := 0; k <= n; k++ {
		all = append(all, systemsByWords(k)...)
	}
	return all
}

// withoutPoints returns p without the points i and j, which are joined.
func withoutPoints(p []int, i, j int) []int {
	var kept []int
	for k := range p {
		if k != i && k != j {
			kept = append(kept, k)
		}
	}
	out := []int{}
	for _, k := range kept {
		out = append(out, slices.Index(kept, p[k]))
	}
	return out
}

// arcsOver returns how many arches of p have the point i strictly between their ends.
func arcsOver(p []int, i int) int {
	over := 0
	for a, b := range p {
		if a < i && i < b {
			over++
		}
	}
	return over
}

func textByWords(p []int) string {
	s := ""
	for i, j := range p {
		if i < j {
			s += "("
		} else {
			s += ")"
		}
	}
	return s
}
