package tests

import (
	"fmt"
	"math"
	"regexp"
	"slices"
	"strings"
	"sync"

	"loop.example/g01126/impl"
)

func sumOf(parts []int) int {
	sum := 0
	for _, part := range parts {
		sum += part
	}
	return sum
}

func arePartsByWords(parts []int) bool {
	for _, part := range parts {
		if part < 1 || part > 20 {
			return false
		}
	}
	return sumOf(parts) <= 20
}

func isSeaweedByWords(s impl.Seaweed) bool {
	return arePartsByWords(s.Top) && arePartsByWords(s.Bottom) && sumOf(s.Top) == sumOf(s.Bottom)
}

// arcsByWords joins the points of each part from both of its ends inwards.
func arcsByWords(parts []int) []int {
	arcs := make([]int, sumOf(parts))
	begin := 0
	for _, part := range parts {
		first, last := begin, begin+part-1
		for first <= last {
			arcs[first], arcs[last] = last, first
			first, last = first+1, last-1
		}
		begin += part
	}
	return arcs
}

// strandsByWords gives each point the least one to which arcs lead, until no arc
// leads to a lesser one, and tells paths from cycles.
func strandsByWords(s impl.Seaweed) (paths, cycles [][]int) {
	sides := [][]int{arcsByWords(s.Top), arcsByWords(s.Bottom)}
	least := make([]int, sumOf(s.Top))
	for i := range least {
		least[i] = i
	}
	for range least {
		for i := range least {
			for _, arcs := range sides {
				least[i] = min(least[i], least[arcs[i]])
			}
		}
	}
	for first := range least {
		var points []int
		isPath := false
		for i := range least {
			if least[i] == first {
				points = append(points, i)
				isPath = isPath || sides[0][i] == i || sides[1][i] == i
			}
		}
		if isPath {
			paths = append(paths, points)
		} else if points != nil {
			cycles = append(cycles, points)
		}
	}
	return paths, cycles
}

func indexByWords(s impl.Seaweed) int {
	paths, cycles := strandsByWords(s)
	return 2*len(cycles) + len(paths) - 1
}

// joinedParts returns parts and those of other lists behind them.
func joinedParts(first []int, others ...[]int) []int {
	return slices.Concat(append([][]int{first}, others...)...)
}

// windStepByWords reads the table of the document line by line.
func windStepByWords(s impl.Seaweed) (impl.Seaweed, string) {
	a, b := s.Top[0], s.Bottom[0]
	above, below := s.Top[1:], s.Bottom[1:]
	if a < b {
		return impl.Seaweed{Top: s.Bottom, Bottom: s.Top}, "F"
	}
	if a == b {
		return impl.Seaweed{Top: above, Bottom: below}, "C"
	}
	if a == b+b {
		return impl.Seaweed{Top: joinedParts([]int{b}, above), Bottom: below}, "B"
	}
	if b < a && a < b+b {
		return impl.Seaweed{Top: joinedParts([]int{b}, above), Bottom: joinedParts([]int{b + b - a}, below)}, "R"
	}
	return impl.Seaweed{Top: joinedParts([]int{a - b - b, b}, above), Bottom: below}, "P"
}

// windByWords returns the seaweed and all those behind its steps, and the letters.
func windByWords(s impl.Seaweed) ([]impl.Seaweed, string) {
	all, letters := []impl.Seaweed{s}, ""
	for len(s.Top) > 0 {
		next, letter := windStepByWords(s)
		all, letters, s = append(all, next), letters+letter, next
	}
	return all, letters
}

func partsText(parts []int) string {
	if len(parts) == 0 {
		return "-"
	}
	return strings.ReplaceAll(strings.Trim(fmt.Sprint(parts), "[]"), " ", "+")
}

func seaweedText(s impl.Seaweed) string {
	return partsText(s.Top) + "|" + partsText(s.Bottom)
}

// seaweedPattern tells how a SeaweedText is written, but not that it has a seaweed.
var seaweedPattern = regexp.MustCompile(`\A(-|[1-9][0-9]?(?:\+[1-9][0-9]?)*)\|(-|[1-9][0-9]?(?:\+[1-9][0-9]?)*)\z`)

func partsOfText(text string) []int {
	parts := []int{}
	if text == "-" {
		return parts
	}
	for _, word := range strings.Split(text, "+") {
		part := 0
		fmt.Sscan(word, &part)
		parts = append(parts, part)
	}
	return parts
}

func seaweedOfText(text string) (impl.Seaweed, bool) {
	sides := seaweedPattern.FindStringSubmatch(text)
	if sides == nil {
		return impl.Seaweed{}, false
	}
	s := impl.Seaweed{Top: partsOfText(sides[1]), Bottom: partsOfText(sides[2])}
	if !isSeaweedByWords(s) {
		return impl.Seaweed{}, false
	}
	return s, true
}

// divisorByWords tries all divisors, from the greatest one on.
func divisorByWords(a, b int) int {
	for d := min(a, b); d > 0; d-- {
		if a%d == 0 && b%d == 0 {
			return d
		}
	}
	return 0
}

// partsCutAt cuts a line of points behind each one whose bit is set.
func partsCutAt(sum int, cuts int) []int {
	parts := []int{}
	part := 0
	for i := range sum {
		part++
		if i == sum-1 || cuts>>i&1 == 1 {
			parts = append(parts, part)
			part = 0
		}
	}
	return parts
}

// partsByWords returns all parts with a sum.
func partsByWords(sum int) [][]int {
	var all [][]int
	for cuts := range 1 << max(sum-1, 0) {
		all = append(all, partsCutAt(sum, cuts))
	}
	return all
}

// seaweedsByWords returns all seaweeds with a sum.
func seaweedsByWords(sum int) []impl.Seaweed {
	var all []impl.Seaweed
	for _, top := range partsByWords(sum) {
		for _, bottom := range partsByWords(sum) {
			all = append(all, impl.Seaweed{Top: top, Bottom: bottom})
		}
	}
	return all
}

func seaweedsUpTo(sum int) []impl.Seaweed {
	var all []impl.Seaweed
	for n := range sum + 1 {
		all = append(all, seaweedsByWords(n)...)
	}
	return all
}

// scatteredSeaweed has few parts for some seeds and many for others.
func scatteredSeaweed(sum int, seed int) impl.Seaweed {
	next := scatter(seed, 1<<19)
	top, bottom := next()+1<<19, next()+1<<19
	switch seed % 3 {
	case 0:
		top, bottom = top&(next()+1<<19), bottom&(next()+1<<19)
	case 1:
		top &= (next() + 1<<19) & (next() + 1<<19)
	}
	return impl.Seaweed{Top: partsCutAt(sum, top), Bottom: partsCutAt(sum, bottom)}
}

// seaweedsOfTwo returns the seaweeds with a sum that have at most two parts above
// and at most two below, all of them.
func seaweedsOfTwo(sum int) []impl.Seaweed {
	lists := [][]int{{sum}}
	for first := 1; first < sum; first++ {
		lists = append(lists, []int{first, sum - first})
	}
	var all []impl.Seaweed
	for _, top := range lists {
		for _, bottom := range lists {
			all = append(all, impl.Seaweed{Top: top, Bottom: bottom})
		}
	}
	return all
}

// seaweedsToTry returns all seaweeds with small sums, and some with each greater
// one.
var seaweedsToTry = sync.OnceValue(func() []impl.Seaweed {
	all := seaweedsUpTo(6)
	for sum := 7; sum <= 20; sum++ {
		ones := slices.Repeat([]int{1}, sum)
		all = append(all, seaweedsOfTwo(sum)...)
		all = append(all, impl.Seaweed{Top: ones, Bottom: ones}, impl.Seaweed{Top: ones, Bottom: []int{sum}}, impl.Seaweed{Top: []int{sum}, Bottom: ones})
		for seed := range 150 {
			all = append(all, scatteredSeaweed(sum, 1000*sum+seed))
		}
	}
	return all
})

// wildParts are no parts, for one reason each.
func wildParts() map[string][]int {
	return map[string][]int{
		"zero":                     {0},
		"zero in front":            {0, 3},
		"zero at the end":          {3, 0},
		"zero among twenty":        {10, 0, 10},
		"negative":                 {-1},
		"negative in front":        {-1, 4},
		"negative at the end":      {4, -1},
		"negative behind 21":       {21, -1},
		"negative in front of 21":  {-1, 21},
		"one part of 21":           {21},
		"21 in two parts":          {20, 1},
		"21 in other two parts":    {1, 20},
		"21 ones":                  slices.Repeat([]int{1}, 21),
		"the greatest":             {math.MaxInt},
		"the greatest behind one":  {1, math.MaxInt},
		"one behind the greatest":  {math.MaxInt, 1},
		"round to 0":               {math.MaxInt, math.MaxInt, 2},
		"round to 3":               {math.MaxInt, math.MaxInt, 5},
		"round behind three":       {3, math.MaxInt, math.MaxInt, 2},
		"the least":                {math.MinInt},
		"round from the least":     {3, math.MinInt, math.MinInt},
		"three but for 2^32":       {3 + 1<<32},
		"very many ones":           slices.Repeat([]int{1}, 100000),
		"very many zeros":          make([]int, 100000),
		"three and very many more": append([]int{3}, make([]int, 100000)...),
	}
}

// wildSeaweeds are no seaweeds, for one reason each.
func wildSeaweeds() map[string]impl.Seaweed {
	all := map[string]impl.Seaweed{
		"one over none":        {Top: []int{1}},
		"none over one":        {Bottom: []int{1}},
		"three over two":       {Top: []int{2, 1}, Bottom: []int{2}},
		"two over three":       {Top: []int{2}, Bottom: []int{1, 2}},
		"as many, unequal":     {Top: []int{2, 1}, Bottom: []int{2, 2}},
		"twenty over 19":       {Top: []int{20}, Bottom: []int{19}},
		"19 over twenty":       {Top: []int{19}, Bottom: []int{20}},
		"twenty over 21":       {Top: []int{20}, Bottom: []int{21}},
		"ones over nothing":    {Top: slices.Repeat([]int{1}, 20)},
		"nothing over twenty":  {Bottom: []int{20}},
		"21 ones over 21":      {Top: slices.Repeat([]int{1}, 21), Bottom: []int{21}},
		"equal, one negative":  {Top: []int{4, -1}, Bottom: []int{3}},
		"equal, one with zero": {Top: []int{3}, Bottom: []int{3, 0}},
	}
	for what, parts := range wildParts() {
		all[what+" above"] = impl.Seaweed{Top: parts, Bottom: []int{3}}
		all[what+" below"] = impl.Seaweed{Top: []int{3}, Bottom: parts}
		all[what+" on both sides"] = impl.Seaweed{Top: parts, Bottom: parts}
		all[what+" above nothing"] = impl.Seaweed{Top: parts}
		all[what+" below nothing"] = impl.Seaweed{Bottom: parts}
		all[what+" above twenty"] = impl.Seaweed{Top: parts, Bottom: []int{20}}
		all[what+" below twenty"] = impl.Seaweed{Top: []int{20}, Bottom: parts}
	}
	return all
}
