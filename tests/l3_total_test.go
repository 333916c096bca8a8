package tests

import (
	"testing"

	"loop.example/g01126/impl"
)

// stateGuard guards both lists of a state.
type stateGuard struct {
	up     guard
	down   guard
	closed int
}

func newStateGuard(s impl.State) stateGuard {
	return stateGuard{newGuard(s.Up), newGuard(s.Down), s.Closed}
}

func (g stateGuard) state() impl.State {
	return impl.State{Up: g.up.list, Down: g.down.list, Closed: g.closed}
}

func (g stateGuard) isUnchanged() bool {
	return g.up.isUnchanged() && g.down.isUnchanged()
}

// stateCalls returns the functions of chapter 3 that take a state, as calls with
// two numbers of which each one uses what it needs.
func stateCalls() map[string]func(s impl.State, i, k int) (any, bool) {
	return map[string]func(s impl.State, i, k int) (any, bool){
		"StepState":   func(s impl.State, i, k int) (any, bool) { return pack(impl.StepState(s, i)) },
		"WaysToClose": func(s impl.State, i, k int) (any, bool) { return pack(impl.WaysToClose(s, i, k)) },
		"FewestSteps": func(s impl.State, i, k int) (any, bool) { return pack(impl.FewestSteps(s)) },
		"MirrorState": func(s impl.State, i, k int) (any, bool) { return pack(impl.MirrorState(s)) },
	}
}

// stepCalls returns the functions of chapter 3 that take a pair.
func stepCalls() map[string]func(m impl.Meander, k int) (any, bool) {
	return map[string]func(m impl.Meander, k int) (any, bool){
		"StepsOf":     func(m impl.Meander, k int) (any, bool) { return pack(impl.StepsOf(m)) },
		"StateBehind": func(m impl.Meander, k int) (any, bool) { return pack(impl.StateBehind(m, k)) },
	}
}

// stateCountCalls returns the functions of chapter 3 that take a number alone.
func stateCountCalls() map[string]func(n int) (any, bool) {
	return map[string]func(n int) (any, bool){
		"StatesAfter":      func(n int) (any, bool) { return pack(impl.StatesAfter(n)) },
		"CountStates":      func(n int) (any, bool) { return pack(impl.CountStates(n)) },
		"CountByStates":    func(n int) (any, bool) { return pack(impl.CountByStates(n)) },
		"MeandersByStates": func(n int) (any, bool) { return pack(impl.MeandersByStates(n)) },
	}
}

func TestPromise11StatesAreNotChanged(t *testing.T) {
	states := append(statesUpTo(4, 2), statesByWords(6, 6, 6)[:20]...)
	for _, s := range wildStates() {
		states = append(states, s)
	}
	for _, s := range states {
		g := newStateGuard(s)
		for name, call := range stateCalls() {
			for i := range 4 {
				checkCall(t, name, func() (any, bool) { return call(g.state(), i, 3) })
				if !g.isUnchanged() {
					t.Fatalf("%s changes its argument %v", name, s)
				}
			}
		}
		if impl.IsState(g.state()) != isStateByWords(s) || !g.isUnchanged() {
			t.Fatalf("IsState of %d arches above is wrong or changes them", len(s.Up))
		}
	}
}

func TestPromise11PairsOfStatesAreNotChanged(t *testing.T) {
	pairs := append(pairsUpTo(3), pairsByWords(6)[4321])
	for _, m := range wildPairs() {
		pairs = append(pairs, m)
	}
	for _, m := range pairs {
		g := newPairGuard(m)
		for name, call := range stepCalls() {
			checkCall(t, name, func() (any, bool) { return call(g.pair(), 2) })
			if !g.isUnchanged() {
				t.Fatalf("%s changes its argument %v", name, m)
			}
		}
	}
}

func TestPromise11StepsAreNotChanged(t *testing.T) {
	lists := [][]int{nil, {}, {0, 1, 2, 3}, {0, 3, 0, 3}, {0, 0, 0, 0, 0, 0, 3, 3, 3, 3, 3, 3}, {0, 0, 3}, {4}, {-1}, {0, 4, -1, 3}}
	for _, p := range wildLists() {
		lists = append(lists, p)
	}
	for _, steps := range lists {
		g := newGuard(steps)
		checkCall(t, "PairOfSteps", func() (any, bool) { return pack(impl.PairOfSteps(g.list)) })
		if !g.isUnchanged() {
			t.Fatalf("PairOfSteps changes its argument %v", steps)
		}
	}
	for _, k := range wildNumbers() {
		checkCall(t, "PairOfSteps", func() (any, bool) { return pack(impl.PairOfSteps([]int{k})) })
		checkCall(t, "PairOfSteps", func() (any, bool) { return pack(impl.PairOfSteps([]int{0, k})) })
	}
}

func TestPromise11StateNumbers(t *testing.T) {
	states := []impl.State{{}, {Closed: 6}, {Up: []int{0, 0, 1, 1, 2, 2}}, {Up: []int{0, 1}, Down: []int{0, 1}, Closed: 5}, {Up: []int{0, 1}, Down: []int{1, 0}}}
	pairs := []impl.Meander{{}, {Top: []int{3, 2, 1, 0}, Bottom: []int{1, 0, 3, 2}}, {Top: []int{1, 0}}, pairsByWords(6)[4321]}
	for _, i := range wildNumbers() {
		for name, call := range stateCountCalls() {
			checkCall(t, name, func() (any, bool) { return call(i) })
		}
		for _, m := range append(pairs, impl.Meander{Top: []int{i, 3}}) {
			for name, call := range stepCalls() {
				checkCall(t, name, func() (any, bool) { return call(m, i) })
			}
		}
		for _, k := range wildNumbers() {
			for _, s := range append(states, impl.State{Up: []int{i}, Down: []int{k}}, impl.State{Closed: i}) {
				for name, call := range stateCalls() {
					checkCall(t, name, func() (any, bool) { return call(s, i, k) })
				}
			}
		}
	}
}

func TestPromise11NoStates(t *testing.T) {
	for what, s := range wildStates() {
		for name, call := range stateCalls() {
			result, ok := call(s, 0, 0)
			mustNotSucceed(t, name+" of what is "+what, ok, result)
		}
	}
	for what, m := range wildPairs() {
		for name, call := range stepCalls() {
			result, ok := call(m, 0)
			mustNotSucceed(t, name+" of what is "+what, ok, result)
		}
	}
	for what, p := range wildLists() {
		result, ok := impl.PairOfSteps(p)
		mustNotSucceed(t, "the pair of steps that are "+what, ok, result)
	}
}

func TestPromise11FirstState(t *testing.T) {
	checkCall(t, "StartState", func() (any, bool) { return impl.StartState(), true })
}
