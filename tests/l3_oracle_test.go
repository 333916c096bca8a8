package tests

import (
	"cmp"
	"slices"

	"loop.example/g01126/impl"
)

// isStateByWords follows the words of the document, number by number.
func isStateByWords(s impl.State) bool {
	if len(s.Up) > 6 || len(s.Down) > 6 || s.Closed < 0 || s.Closed > 6 {
		return false
	}
	all := slices.Concat(s.Up, s.Down)
	next := 0
	for i, x := range all {
		if slices.Index(all, x) == i {
			if x != next {
				return false
			}
			next++
		}
		if len(slices.DeleteFunc(slices.Clone(all), func(y int) bool { return y != x })) != 2 {
			return false
		}
	}
	return !isCrossedByWords(s)
}

func isCrossedByWords(s impl.State) bool {
	round := slices.Clone(s.Down)
	slices.Reverse(round)
	round = slices.Concat(s.Up, round)
	for a := range round {
		for b := a + 1; b < len(round); b++ {
			for c := b + 1; c < len(round); c++ {
				for d := c + 1; d < len(round); d++ {
					if round[a] == round[c] && round[b] == round[d] && round[a] != round[b] {
						return true
					}
				}
			}
		}
	}
	return false
}

// numberedByWords gives parts, which may be any different numbers, the numbers
// that the document wants.
func numberedByWords(up, down []int, closed int) impl.State {
	var met []int
	number := func(parts []int) []int {
		out := []int{}
		for _, x := range parts {
			if !slices.Contains(met, x) {
				met = append(met, x)
			}
			out = append(out, slices.Index(met, x))
		}
		return out
	}
	first := number(up)
	return impl.State{Up: first, Down: number(down), Closed: closed}
}

// statesByWords returns all states with some numbers of open arches, made of all
// ways to join these in pairs.
func statesByWords(above, below, closed int) []impl.State {
	if (above+below)%2 != 0 {
		return nil
	}
	var all []impl.State
	for _, p := range matchings((above + below) / 2) {
		labels := make([]int, len(p))
		for i, j := range p {
			labels[i] = min(i, j)
		}
		s := numberedByWords(labels[:above], labels[above:], closed)
		if !isCrossedByWords(s) {
			all = append(all, s)
		}
	}
	return all
}

// statesUpTo returns all states with at most n open arches on each side.
func statesUpTo(n int, closed int) []impl.State {
	var all []impl.State
	for above := 0; above <= n; above++ {
		for below := 0; below <= n; below++ {
			all = append(all, statesByWords(above, below, closed)...)
		}
	}
	return all
}

// drawing is a part of a picture: places that are joined. Parts are told by
// flooding it.
type drawing struct {
	least []int
	joins [][2]int
}

func newDrawing(places int) *drawing {
	d := &drawing{least: make([]int, places)}
	for i := range d.least {
		d.least[i] = i
	}
	return d
}

func (d *drawing) join(i, j int) {
	d.joins = append(d.joins, [2]int{i, j})
	for range d.least {
		for _, join := range d.joins {
			low := min(d.least[join[0]], d.least[join[1]])
			d.least[join[0]], d.least[join[1]] = low, low
		}
	}
}

func (d *drawing) partsAt(places []int) []int {
	var parts []int
	for _, i := range places {
		parts = append(parts, d.least[i])
	}
	return parts
}

// stepByWords draws the open ends of a state as places, and the new point with
// its new arches as three more, and reads the open ends again.
func stepByWords(s impl.State, k int) (impl.State, bool) {
	all := slices.Concat(s.Up, s.Down)
	point, newUp, newDown := len(all), len(all)+1, len(all)+2
	d := newDrawing(len(all) + 3)
	for i, x := range all {
		d.join(i, slices.Index(all, x))
	}
	var up, down []int
	for i := range all {
		if i < len(s.Up) {
			up = append(up, i)
		} else {
			down = append(down, i)
		}
	}
	after := func(places []int, added int, begins bool) ([]int, bool) {
		if begins {
			d.join(point, added)
			return append(places, added), true
		}
		if len(places) == 0 {
			return nil, false
		}
		d.join(point, places[len(places)-1])
		return places[:len(places)-1], true
	}
	up, upOk := after(up, newUp, k == 0 || k == 1)
	down, downOk := after(down, newDown, k == 0 || k == 2)
	if !upOk || !downOk {
		return impl.State{}, false
	}
	open := slices.Concat(d.partsAt(up), d.partsAt(down))
	closed := s.Closed
	if !slices.Contains(open, d.least[point]) {
		closed++
	}
	behind := numberedByWords(d.partsAt(up), d.partsAt(down), closed)
	if len(behind.Up) > 6 || len(behind.Down) > 6 || behind.Closed > 6 {
		return impl.State{}, false
	}
	return behind, true
}

// behindByWords looks at the picture of a pair alone: which of its first k points
// arches join, and where arches lead out to the right.
func behindByWords(m impl.Meander, k int) impl.State {
	d := newDrawing(k)
	var up, down []int
	for i := range k {
		if m.Top[i] < k {
			d.join(i, m.Top[i])
		} else {
			up = append(up, i)
		}
		if m.Bottom[i] < k {
			d.join(i, m.Bottom[i])
		} else {
			down = append(down, i)
		}
	}
	open := slices.Concat(d.partsAt(up), d.partsAt(down))
	var closed []int
	for _, part := range d.least {
		if !slices.Contains(open, part) && !slices.Contains(closed, part) {
			closed = append(closed, part)
		}
	}
	return numberedByWords(d.partsAt(up), d.partsAt(down), len(closed))
}

func stepsByWords(m impl.Meander) []int {
	steps := []int{}
	for i := range m.Top {
		switch above, below := m.Top[i] > i, m.Bottom[i] > i; {
		case above && below:
			steps = append(steps, 0)
		case above:
			steps = append(steps, 1)
		case below:
			steps = append(steps, 2)
		default:
			steps = append(steps, 3)
		}
	}
	return steps
}

// waysByWords tries all lists of steps.
func waysByWords(s impl.State, left int, k int) int {
	if left == 0 {
		if len(s.Up) == 0 && len(s.Down) == 0 && s.Closed == k {
			return 1
		}
		return 0
	}
	ways := 0
	for step := range 4 {
		if behind, ok := stepByWords(s, step); ok {
			ways += waysByWords(behind, left-1, k)
		}
	}
	return ways
}

func mirroredByWords(s impl.State) impl.State {
	return numberedByWords(s.Down, s.Up, s.Closed)
}

func compareStates(a, b impl.State) int {
	return cmp.Or(cmp.Compare(len(a.Up), len(b.Up)), slices.Compare(a.Up, b.Up), slices.Compare(a.Down, b.Down))
}

// wildStates are no states, for one reason each.
func wildStates() map[string]impl.State {
	long := make([]int, 100000)
	for i := range long {
		long[i] = i / 2
	}
	return map[string]impl.State{
		"one end alone above":          {Up: []int{0}},
		"one end alone below":          {Down: []int{0}},
		"three ends above":             {Up: []int{0, 0, 0}},
		"three and one end":            {Up: []int{0, 0, 0, 1}},
		"four ends of one part":        {Up: []int{0, 0, 0, 0}},
		"two ends twice":               {Up: []int{0, 0}, Down: []int{0, 0}},
		"three ends on two sides":      {Up: []int{0, 0}, Down: []int{0}},
		"two different ends":           {Up: []int{0}, Down: []int{1}},
		"numbered from 1":              {Up: []int{1, 1}},
		"numbered with a gap":          {Up: []int{0, 0, 2, 2}},
		"numbered in the wrong order":  {Up: []int{1, 1, 0, 0}},
		"numbered from below":          {Up: []int{1, 1}, Down: []int{0, 0}},
		"crossing around a part below": {Up: []int{0, 1}, Down: []int{1, 2, 2, 0}},
		"below numbered backwards":     {Down: []int{1, 1, 0, 0}},
		"crossing above":               {Up: []int{0, 1, 0, 1}},
		"crossing below":               {Down: []int{0, 1, 0, 1}},
		"crossing from above to below": {Up: []int{0, 1}, Down: []int{1, 0}},
		"crossing with two above":      {Up: []int{0, 1, 0}, Down: []int{1}},
		"crossing with three":          {Up: []int{0, 1, 2}, Down: []int{0, 2, 1}},
		"negative numbers":             {Up: []int{-1, -1}},
		"great numbers":                {Up: []int{1 << 62, 1 << 62}},
		"least numbers":                {Down: []int{-1 << 63, -1 << 63}},
		"minus one closed":             {Closed: -1},
		"seven closed":                 {Closed: 7},
		"one below zero with parts":    {Up: []int{0}, Down: []int{0}, Closed: -1},
		"seven closed with parts":      {Up: []int{0}, Down: []int{0}, Closed: 7},
		"most closed":                  {Closed: 1<<63 - 1},
		"least closed":                 {Closed: -1 << 63},
		"seven above":                  {Up: []int{0, 0, 1, 1, 2, 2, 3}, Down: []int{3}},
		"seven below":                  {Up: []int{0}, Down: []int{0, 1, 1, 2, 2, 3, 3}},
		"seven on both sides":          {Up: []int{0, 1, 2, 3, 4, 5, 6}, Down: []int{0, 1, 2, 3, 4, 5, 6}},
		"eight above":                  {Up: []int{0, 0, 1, 1, 2, 2, 3, 3}},
		"eight below":                  {Down: []int{0, 0, 1, 1, 2, 2, 3, 3}},
		"very long above":              {Up: long},
		"very long below":              {Down: long},
		"very long on both sides":      {Up: long, Down: long},
	}
}
