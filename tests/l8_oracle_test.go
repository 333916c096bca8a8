package tests

import (
	"slices"
	"strings"
	"sync"

	"loop.example/g01126/impl"
)

// isClosedByWords asks all arches from the points of a stretch.
func isClosedByWords(m impl.Meander, i, j int) bool {
	for k := i; k <= j; k++ {
		for _, end := range []int{m.Top[k], m.Bottom[k]} {
			if end < i || end > j {
				return false
			}
		}
	}
	return true
}

// closedByWords returns all proper closed stretches, in order.
func closedByWords(m impl.Meander) [][]int {
	var all [][]int
	for i := range m.Top {
		for j := i + 1; j < len(m.Top); j++ {
			proper := i > 0 || j < len(m.Top)-1
			if proper && isClosedByWords(m, i, j) {
				all = append(all, []int{i, j})
			}
		}
	}
	return all
}

// shortestByWords returns those of the proper closed stretches than which none is
// shorter, in order.
func shortestByWords(m impl.Meander) [][]int {
	var shortest [][]int
	for _, s := range closedByWords(m) {
		switch {
		case len(shortest) == 0 || s[1]-s[0] < shortest[0][1]-shortest[0][0]:
			shortest = [][]int{s}
		case s[1]-s[0] == shortest[0][1]-shortest[0][0]:
			shortest = append(shortest, s)
		}
	}
	return shortest
}

// systemOfText joins brackets that stand next to each other once those between
// them are joined. The text must be one.
func systemOfText(text string) []int {
	p := make([]int, len(text))
	signs := []byte(text)
	for strings.ContainsRune(string(signs), '(') {
		for j := range signs {
			i := j - 1
			for i >= 0 && signs[i] == ' ' {
				i--
			}
			if signs[j] == ')' && i >= 0 && signs[i] == '(' {
				p[i], p[j] = j, i
				signs[i], signs[j] = ' ', ' '
			}
		}
	}
	return p
}

func pairOfText(text string) impl.Meander {
	above, below, _ := strings.Cut(text, "|")
	return impl.Meander{Top: systemOfText(above), Bottom: systemOfText(below)}
}

// insideByText keeps the brackets of a stretch.
func insideByText(text string, i, j int) string {
	above, below, _ := strings.Cut(text, "|")
	return above[i:j+1] + "|" + below[i:j+1]
}

// outsideByText strikes out the brackets of a stretch.
func outsideByText(text string, i, j int) string {
	above, below, _ := strings.Cut(text, "|")
	return above[:i] + above[j+1:] + "|" + below[:i] + below[j+1:]
}

// insertedByText writes the brackets of one text between those of another one.
func insertedByText(text string, at int, other string) string {
	above, below, _ := strings.Cut(text, "|")
	otherAbove, otherBelow, _ := strings.Cut(other, "|")
	return above[:at] + otherAbove + above[at:] + "|" + below[:at] + otherBelow + below[at:]
}

func isWholeByWords(m impl.Meander) bool {
	return len(m.Top) > 0 && len(closedByWords(m)) == 0
}

// piecesByWords returns the texts of the pieces in the order in which they are cut
// off, where choose tells which one of some shortest stretches is taken. There must
// be an arch.
func piecesByWords(m impl.Meander, choose func(shortest [][]int) []int) []string {
	var pieces []string
	text := pairTextByWords(m)
	for !isWholeByWords(m) {
		s := choose(shortestByWords(m))
		pieces = append(pieces, insideByText(text, s[0], s[1]))
		text = outsideByText(text, s[0], s[1])
		m = pairOfText(text)
	}
	return append(pieces, text)
}

func firstOf(lists [][]int) []int {
	return lists[0]
}

func lastOf(lists [][]int) []int {
	return lists[len(lists)-1]
}

// allCuttings returns the different sorted lists of pieces that come out if any
// shortest stretches are taken, each list as one text.
func allCuttings(m impl.Meander) map[string]bool {
	if isWholeByWords(m) {
		return map[string]bool{pairTextByWords(m): true}
	}
	all := map[string]bool{}
	for _, s := range shortestByWords(m) {
		text := pairTextByWords(m)
		piece := insideByText(text, s[0], s[1])
		for others := range allCuttings(pairOfText(outsideByText(text, s[0], s[1]))) {
			pieces := append(strings.Fields(others), piece)
			slices.Sort(pieces)
			all[strings.Join(pieces, " ")] = true
		}
	}
	return all
}

func sortedTexts(texts []string) []string {
	sorted := slices.Clone(texts)
	slices.Sort(sorted)
	return sorted
}

func textsOf(pairs []impl.Meander) []string {
	var texts []string
	for _, m := range pairs {
		texts = append(texts, pairTextByWords(m))
	}
	return texts
}

func wholeByWords(n int) []impl.Meander {
	var all []impl.Meander
	for _, m := range pairsByWords(n) {
		if isWholeByWords(m) {
			all = append(all, m)
		}
	}
	return all
}

// pairsToCut are all pairs of up to five arches, and of six those in which there is
// much to cut and some of the others.
var pairsToCut = sync.OnceValue(func() []impl.Meander {
	all := pairsUpTo(5)
	for k, m := range pairsByWords(6) {
		if k%9 == 0 || len(curvesByWords(m)) >= 4 {
			all = append(all, m)
		}
	}
	return all
})

// product returns the product of two polynomials, as far as their powers are known.
func product(a, b []int) []int {
	p := make([]int, len(a))
	for i := range a {
		for j := range len(a) - i {
			p[i+j] += a[i] * b[j]
		}
	}
	return p
}

// wholeBySeries tells from the numbers of all pairs with up to n arches how many of
// them are whole. If any pairs, some of them without arches, are put behind each of
// the 2 k points of a whole pair of k arches, each pair with arches comes just once.
func wholeBySeries(n int) []int {
	pairs := make([]int, n+1)
	for k := range pairs {
		systems := len(systemsByWords(k))
		pairs[k] = systems * systems
	}
	left := slices.Clone(pairs)
	left[0]--
	whole := make([]int, n+1)
	filled := make([]int, n+1)
	filled[0] = 1
	for k := 1; k <= n; k++ {
		filled = product(filled, product(pairs, pairs))
		whole[k] = left[k]
		for i := range n + 1 - k {
			left[k+i] -= whole[k] * filled[i]
		}
	}
	return whole
}
