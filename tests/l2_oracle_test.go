package tests

import (
	"slices"

	"loop.example/g01126/impl"
)

// pairsByWords returns all pairs with n arches above, by the ranks of Top, then
// by those of Bottom.
func pairsByWords(n int) []impl.Meander {
	var all []impl.Meander
	systems := systemsByWords(n)
	for _, top := range systems {
		for _, bottom := range systems {
			all = append(all, impl.Meander{Top: top, Bottom: bottom})
		}
	}
	return all
}

// pairsUpTo returns all pairs with at most n arches above.
func pairsUpTo(n int) []impl.Meander {
	var all []impl.Meander
	for k := 0; k <= n; k++ {
		all = append(all, pairsByWords(k)...)
	}
	return all
}

func isPairByWords(m impl.Meander) bool {
	return isSystemByWords(m.Top) && isSystemByWords(m.Bottom) && len(m.Top) == len(m.Bottom)
}

// curvesByWords floods: points that an arch joins get the least number of both,
// until nothing changes.
func curvesByWords(m impl.Meander) [][]int {
	least := make([]int, len(m.Top))
	for i := range least {
		least[i] = i
	}
	for changed := true; changed; {
		changed = false
		for i := range least {
			for _, j := range []int{m.Top[i], m.Bottom[i]} {
				if least[j] < least[i] {
					least[i] = least[j]
					changed = true
				}
			}
		}
	}
	curves := [][]int{}
	for first := range least {
		var curve []int
		for i := range least {
			if least[i] == first {
				curve = append(curve, i)
			}
		}
		if curve != nil {
			curves = append(curves, curve)
		}
	}
	return curves
}

// wayByWords goes on until a point comes again.
func wayByWords(m impl.Meander, i int) []int {
	var way []int
	for !slices.Contains(way, i) {
		way = append(way, i)
		if len(way)%2 == 1 {
			i = m.Top[i]
		} else {
			i = m.Bottom[i]
		}
	}
	return way
}

// meandersByWords returns all meanders with n arches above, in order.
func meandersByWords(n int) []impl.Meander {
	var all []impl.Meander
	for _, m := range pairsByWords(n) {
		if n > 0 && len(curvesByWords(m)) == 1 {
			all = append(all, m)
		}
	}
	return all
}

func signByWords(p []int) int {
	count := 0
	for j := range p {
		for i := range j {
			if i%2 == 0 && j%2 == 0 && p[i] > p[j] {
				count++
			}
		}
	}
	return 1 - count%2*2
}

func pairTextByWords(m impl.Meander) string {
	return textByWords(m.Top) + "|" + textByWords(m.Bottom)
}

// wildPairs are no pairs, for one reason each.
func wildPairs() map[string]impl.Meander {
	pairs := map[string]impl.Meander{
		"one arch over none": {Top: []int{1, 0}},
		"none over one arch": {Bottom: []int{1, 0}},
		"two over one":       {Top: []int{1, 0, 3, 2}, Bottom: []int{1, 0}},
		"five over six":      {Top: []int{1, 0, 3, 2, 5, 4, 7, 6, 9, 8}, Bottom: []int{11, 10, 9, 8, 7, 6, 5, 4, 3, 2, 1, 0}},
	}
	for what, p := range wildLists() {
		flat := make([]int, len(p)/2*2)
		for i := range flat {
			flat[i] = i ^ 1
		}
		pairs[what+" above"] = impl.Meander{Top: p, Bottom: flat}
		pairs[what+" below"] = impl.Meander{Top: flat, Bottom: p}
		pairs[what+" on both sides"] = impl.Meander{Top: p, Bottom: p}
		pairs[what+" above nothing"] = impl.Meander{Top: p}
		pairs[what+" below nothing"] = impl.Meander{Bottom: p}
	}
	return pairs
}
