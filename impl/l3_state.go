package impl

import (
	"cmp"
	"maps"
	"slices"
)

const stepKinds = 4

const maxPointsBehind = 6

const maxStepsLeft = 8

type State struct {
	Up     []int
	Down   []int
	Closed int
}

// ends holds the parts of the open arches of one side, the outer ones first.
// What is behind its size stays 0, so that equal ends are equal as structs.
type ends struct {
	parts [MaxArches]int
	size  int
}

func readEnds(list []int) (ends, bool) {
	if len(list) > MaxArches {
		return ends{}, false
	}
	e := ends{size: len(list)}
	copy(e.parts[:], list)
	return e, true
}

func (e ends) list() []int {
	list := make([]int, e.size)
	copy(list, e.parts[:])
	return list
}

// push adds the innermost arch. It fails if there is no room for it.
func (e *ends) push(part int) bool {
	if e.size == MaxArches {
		return false
	}
	e.parts[e.size] = part
	e.size++
	return true
}

// pop takes the innermost arch away. It fails if there is none.
func (e *ends) pop() (int, bool) {
	if e.size == 0 {
		return 0, false
	}
	e.size--
	part := e.parts[e.size]
	e.parts[e.size] = 0
	return part, true
}

func (e *ends) rename(from int, to int) {
	for i, part := range e.parts[:e.size] {
		if part == from {
			e.parts[i] = to
		}
	}
}

// number replaces each part by its number, and gives the next one to a part
// that has none yet.
func (e *ends) number(numbers map[int]int) {
	for i, part := range e.parts[:e.size] {
		number, known := numbers[part]
		if !known {
			number = len(numbers)
			numbers[part] = number
		}
		e.parts[i] = number
	}
}

// frontier is a State as a value, which can be a key of a map.
type frontier struct {
	up     ends
	down   ends
	closed int
}

func readState(s State) (frontier, bool) {
	up, upOk := readEnds(s.Up)
	down, downOk := readEnds(s.Down)
	f := frontier{up, down, s.Closed}
	if !upOk || !downOk || s.Closed < 0 || s.Closed > MaxArches {
		return frontier{}, false
	}
	if f.renumbered() != f || !f.isPaired() || f.crosses() {
		return frontier{}, false
	}
	return f, true
}

func (f frontier) state() State {
	return State{Up: f.up.list(), Down: f.down.list(), Closed: f.closed}
}

func (f frontier) renumbered() frontier {
	numbers := map[int]int{}
	f.up.number(numbers)
	f.down.number(numbers)
	return f
}

// round returns the open ends as they stand around the line: those above, and
// those below backwards behind them.
func (f frontier) round() []int {
	below := f.down.list()
	slices.Reverse(below)
	return append(f.up.list(), below...)
}

// isPaired expects the parts to be numbered from 0 on.
func (f frontier) isPaired() bool {
	var times [2 * MaxArches]int
	for _, part := range f.round() {
		times[part]++
	}
	for _, part := range f.round() {
		if times[part] != 2 {
			return false
		}
	}
	return true
}

// crosses expects each part to be there twice: none cross exactly if one part
// after the other can be taken out whose ends stand side by side.
func (f frontier) crosses() bool {
	var open []int
	for _, part := range f.round() {
		last := len(open) - 1
		if last >= 0 && open[last] == part {
			open = open[:last]
		} else {
			open = append(open, part)
		}
	}
	return len(open) > 0
}

func (f frontier) fewestSteps() int {
	return max(f.up.size, f.down.size)
}

func (f frontier) mirrored() frontier {
	f.up, f.down = f.down, f.up
	return f.renumbered()
}

// step returns the frontier behind a step. It fails if there is none.
func (f frontier) step(k int) (frontier, bool) {
	ok := false
	switch k {
	case 0:
		ok = f.begin()
	case 1:
		ok = lead(&f.down, &f.up)
	case 2:
		ok = lead(&f.up, &f.down)
	case 3:
		ok = f.end()
	}
	if !ok {
		return frontier{}, false
	}
	return f.renumbered(), true
}

// begin gives both ends to a part with the first number that is free.
func (f *frontier) begin() bool {
	part := (f.up.size + f.down.size) / 2
	return f.up.push(part) && f.down.push(part)
}

// lead ends an arch on one side; its part goes on at a new arch on the other.
func lead(from *ends, to *ends) bool {
	part, ok := from.pop()
	return ok && to.push(part)
}

// end ends an arch above and one below, and so joins their parts.
func (f *frontier) end() bool {
	above, aboveOk := f.up.pop()
	below, belowOk := f.down.pop()
	if !aboveOk || !belowOk {
		return false
	}
	if above == below {
		f.closed++
		return f.closed <= MaxArches
	}
	f.up.rename(below, above)
	f.down.rename(below, above)
	return true
}

// tally tells for each frontier in how many ways it is reached.
type tally map[frontier]int

func (t tally) stepped() tally {
	next := tally{}
	for f, ways := range t {
		for k := range stepKinds {
			if behind, ok := f.step(k); ok {
				next[behind] += ways
			}
		}
	}
	return next
}

func (t tally) drop(useless func(frontier) bool) {
	for f := range t {
		if useless(f) {
			delete(t, f)
		}
	}
}

// closings tells in how many ways a frontier is brought by some steps to each
// one where nothing is open.
func closings(from frontier, left int) tally {
	reached := tally{from: 1}
	for left > 0 {
		left--
		reached = reached.stepped()
		reached.drop(func(f frontier) bool { return f.fewestSteps() > left })
	}
	return reached
}

// unclosedAfter returns, in order, the frontiers behind k points with no curve
// closed.
func unclosedAfter(k int) []frontier {
	reached := tally{frontier{}: 1}
	for range k {
		reached = reached.stepped()
		reached.drop(func(f frontier) bool { return f.closed > 0 })
	}
	return slices.SortedFunc(maps.Keys(reached), compareFrontiers)
}

func compareFrontiers(a frontier, b frontier) int {
	return cmp.Or(
		cmp.Compare(a.up.size, b.up.size),
		slices.Compare(a.up.list(), b.up.list()),
		slices.Compare(a.down.list(), b.down.list()),
	)
}

// stepAt adds 2 if an arch ends above and 1 if one ends below.
func (p pair) stepAt(i int) int {
	step := 0
	if !p.top.begins(i) {
		step += 2
	}
	if !p.bottom.begins(i) {
		step++
	}
	return step
}

// IsState reports whether s is a state.
func IsState(s State) bool {
	_, ok := readState(s)
	return ok
}

// StartState returns the state before the first point.
func StartState() State {
	return frontier{}.state()
}

// StepState returns the state behind a step k in 0..3: at 0 a new part has both ends; at 1 and 2 the end of the innermost arch that ends goes on at the new arch; at 3 the parts of both arches are joined to one, or a curve is closed if they are the same. It fails if there is no arch that can end, or if what is left is no state.
func StepState(s State, k int) (State, bool) {
	f, ok := readState(s)
	if !ok {
		return State{}, false
	}
	behind, ok := f.step(k)
	if !ok {
		return State{}, false
	}
	return behind.state(), true
}

// StepsOf returns the steps of a pair, point by point.
func StepsOf(m Meander) ([]int, bool) {
	p, ok := readPair(m)
	if !ok {
		return nil, false
	}
	steps := make([]int, p.size())
	for i := range steps {
		steps[i] = p.stepAt(i)
	}
	return steps, true
}

// PairOfSteps returns the pair with given steps, at most 2 MaxArches of them. It fails if there is none.
func PairOfSteps(steps []int) (Meander, bool) {
	if len(steps) > 2*MaxArches {
		return Meander{}, false
	}
	var above, below []byte
	for _, k := range steps {
		if k < 0 || k >= stepKinds {
			return Meander{}, false
		}
		above = append(above, "()"[k/2])
		below = append(below, "()"[k%2])
	}
	return ParseMeander(string(above) + "|" + string(below))
}

// StateBehind returns the state behind the first k points of a pair.
func StateBehind(m Meander, k int) (State, bool) {
	p, ok := readPair(m)
	if !ok || k < 0 || k > p.size() {
		return State{}, false
	}
	f := frontier{}
	for i := range k {
		// No step fails: neither the open arches of a side nor the closed
		// curves are ever more than the pair has arches.
		f, _ = f.step(p.stepAt(i))
	}
	return f.state(), true
}

// StatesAfter returns all different states behind k points, k in 0..6, in which no curve is closed, ordered by the lengths of Up, then by Up and then by Down, lexicographically.
func StatesAfter(k int) ([]State, bool) {
	if k < 0 || k > maxPointsBehind {
		return nil, false
	}
	var states []State
	for _, f := range unclosedAfter(k) {
		states = append(states, f.state())
	}
	return states, true
}

// CountStates returns how many there are.
func CountStates(k int) (int, bool) {
	if k < 0 || k > maxPointsBehind {
		return 0, false
	}
	return len(unclosedAfter(k)), true
}

// CountByStates returns for k in 0..n how many pairs with n arches above have k components, n in 0..MaxArches, by states.
func CountByStates(n int) ([]int, bool) {
	if !isArchCount(n) {
		return nil, false
	}
	closed := closings(frontier{}, 2*n)
	counts := make([]int, n+1)
	for k := range counts {
		counts[k] = closed[frontier{closed: k}]
	}
	return counts, true
}

// MeandersByStates returns how many of them are meanders, n in 1..MaxArches.
func MeandersByStates(n int) (int, bool) {
	if n < 1 {
		return 0, false
	}
	counts, ok := CountByStates(n)
	if !ok {
		return 0, false
	}
	return counts[1], true
}

// WaysToClose returns in how many ways a state can be brought by left steps, left in 0..8, to one without open parts and with Closed k, k in 0..MaxArches.
func WaysToClose(s State, left int, k int) (int, bool) {
	f, ok := readState(s)
	if !ok || left < 0 || left > maxStepsLeft || k < 0 || k > MaxArches {
		return 0, false
	}
	return closings(f, left)[frontier{closed: k}], true
}

// FewestSteps returns the greater one of the lengths of Up and Down: no fewer steps lead to a state in which nothing is open, and so many do, if not too many curves are closed.
func FewestSteps(s State) (int, bool) {
	f, ok := readState(s)
	return f.fewestSteps(), ok
}

// MirrorState returns the state with Up and Down exchanged, and parts numbered anew.
func MirrorState(s State) (State, bool) {
	f, ok := readState(s)
	if !ok {
		return State{}, false
	}
	return f.mirrored().state(), true
}
