package tests

import (
	"slices"
	"sync"

	"loop.example/g01126/impl"
)

// archesByWords returns the points where arches begin.
func archesByWords(p []int) []int {
	var arches []int
	for i, j := range p {
		if i < j {
			arches = append(arches, i)
		}
	}
	return arches
}

// isArchOver tells whether the arch at a is over both ends of the arch at b.
func isArchOver(p []int, a, b int) bool {
	return a < b && p[b] < p[a]
}

// isArchJustUnder tells whether the arch at a is over that at b with no other arch
// between.
func isArchJustUnder(p []int, a, b int) bool {
	between := slices.ContainsFunc(archesByWords(p), func(c int) bool {
		return isArchOver(p, a, c) && isArchOver(p, c, b)
	})
	return isArchOver(p, a, b) && !between
}

func facesByWords(p []int) [][]int {
	arches := archesByWords(p)
	faces := [][]int{nil}
	for _, a := range arches {
		if arcsOver(p, a) == 0 {
			faces[0] = append(faces[0], a)
		}
	}
	for _, a := range arches {
		face := []int{a}
		for _, b := range arches {
			if isArchJustUnder(p, a, b) {
				face = append(face, b)
			}
		}
		faces = append(faces, face)
	}
	return faces
}

// exchangedByWords tries the three ways in which four ends can be joined. It fails
// if no face has both arches.
func exchangedByWords(p []int, i, j int) ([]int, bool) {
	together := slices.ContainsFunc(facesByWords(p), func(face []int) bool {
		return slices.Contains(face, i) && slices.Contains(face, j)
	})
	if i >= j || !together {
		return nil, false
	}
	ends := []int{i, p[i], j, p[j]}
	for k := 1; k < 4; k++ {
		others := slices.Delete(slices.Clone(ends[1:]), k-1, k)
		q := slices.Clone(p)
		q[ends[0]], q[ends[k]] = ends[k], ends[0]
		q[others[0]], q[others[1]] = others[1], others[0]
		if isSystemByWords(q) && !sameList(p, q) {
			return q, true
		}
	}
	return nil, false
}

// pathByWords makes the first exchange above, by the points where the arches begin,
// that changes the number of components so, until a pair is reached.
func pathByWords(m impl.Meander, change int, isReached func(impl.Meander) bool) []impl.Meander {
	path := []impl.Meander{m}
	for !isReached(m) {
		m = firstChangeByWords(m, change)
		path = append(path, m)
	}
	return path
}

func firstChangeByWords(m impl.Meander, change int) impl.Meander {
	for i := range m.Top {
		for j := range m.Top {
			top, ok := exchangedByWords(m.Top, i, j)
			behind := impl.Meander{Top: top, Bottom: m.Bottom}
			if ok && len(curvesByWords(behind))-len(curvesByWords(m)) == change {
				return behind
			}
		}
	}
	panic("no exchange changes the number of components so: " + pairTextByWords(m))
}

func isOneCurve(m impl.Meander) bool {
	return len(curvesByWords(m)) == 1
}

func hasAllCurves(m impl.Meander) bool {
	return len(curvesByWords(m)) == len(m.Top)/2
}

func hasSameSystems(m impl.Meander) bool {
	return sameList(m.Top, m.Bottom)
}

func topsByWords(path []impl.Meander) [][]int {
	var tops [][]int
	for _, m := range path {
		tops = append(tops, m.Top)
	}
	return tops
}

// exchangeGraph has all systems of some arches, in order, and tells by their ranks
// which ones have all arches but two in common, how far they are from each other, on
// how many shortest ways, and how many components they have as a pair.
type exchangeGraph struct {
	systems  [][]int
	next     [][]int
	distance [][]int
	ways     [][]int
	curves   [][]int
}

// haveAllButTwo knows that two arches that are not in common have the same four ends
// in both systems.
func haveAllButTwo(p, q []int) bool {
	others := 0
	for i := range p {
		if p[i] != q[i] {
			others++
		}
	}
	return others == 4
}

func newExchangeGraph(n int) exchangeGraph {
	g := exchangeGraph{systems: systemsByWords(n)}
	for _, p := range g.systems {
		var next, curves []int
		for rank, q := range g.systems {
			if haveAllButTwo(p, q) {
				next = append(next, rank)
			}
			curves = append(curves, len(curvesByWords(impl.Meander{Top: p, Bottom: q})))
		}
		g.next = append(g.next, next)
		g.curves = append(g.curves, curves)
	}
	for rank := range g.systems {
		distance, ways := g.waysFrom(rank)
		g.distance = append(g.distance, distance)
		g.ways = append(g.ways, ways)
	}
	return g
}

// waysFrom goes from system to system, the nearer ones first.
func (g exchangeGraph) waysFrom(from int) (distance []int, ways []int) {
	distance = make([]int, len(g.systems))
	ways = make([]int, len(g.systems))
	for rank := range distance {
		distance[rank] = -1
	}
	distance[from], ways[from] = 0, 1
	reached := []int{from}
	for k := 0; k < len(reached); k++ {
		at := reached[k]
		for _, rank := range g.next[at] {
			if distance[rank] < 0 {
				distance[rank] = distance[at] + 1
				reached = append(reached, rank)
			}
			if distance[rank] == distance[at]+1 {
				ways[rank] += ways[at]
			}
		}
	}
	return distance, ways
}

func (g exchangeGraph) systemsAt(ranks []int) [][]int {
	var all [][]int
	for _, rank := range ranks {
		all = append(all, g.systems[rank])
	}
	return all
}

func (g exchangeGraph) ranksWhere(chosen func(rank int) bool) []int {
	var ranks []int
	for rank := range g.systems {
		if chosen(rank) {
			ranks = append(ranks, rank)
		}
	}
	return ranks
}

// exchangeGraphs are those of no arches and more, up to six.
var exchangeGraphs = sync.OnceValue(func() []exchangeGraph {
	var all []exchangeGraph
	for n := range 7 {
		all = append(all, newExchangeGraph(n))
	}
	return all
})

func (g exchangeGraph) pair(top, bottom int) impl.Meander {
	return impl.Meander{Top: g.systems[top], Bottom: g.systems[bottom]}
}

// fromEachPair calls for all pairs of ranks of up to n arches.
func fromEachPair(n int, call func(g exchangeGraph, a, b int)) {
	for _, g := range exchangeGraphs()[:n+1] {
		for a := range g.systems {
			for b := range g.systems {
				call(g, a, b)
			}
		}
	}
}
