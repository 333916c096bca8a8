package tests

import (
	"math"
	"slices"
	"testing"

	"loop.example/g01126/impl"
)

// listsOf returns all lists of a length of numbers in low..high.
func listsOf(length, low, high int) [][]int {
	all := [][]int{{}}
	for range length {
		var longer [][]int
		for _, p := range all {
			for x := low; x <= high; x++ {
				longer = append(longer, append(slices.Clone(p), x))
			}
		}
		all = longer
	}
	return all
}

func TestPromise3IsState(t *testing.T) {
	var lists [][]int
	for length := range 5 {
		lists = append(lists, listsOf(length, -1, 3)...)
	}
	for _, up := range lists {
		for _, down := range lists {
			if len(up)+len(down) > 6 {
				continue
			}
			s := impl.State{Up: up, Down: down}
			if impl.IsState(s) != isStateByWords(s) {
				t.Errorf("IsState(%v) is wrong", s)
			}
		}
	}
	for closed := -2; closed <= 8; closed++ {
		for _, s := range statesUpTo(2, closed) {
			if impl.IsState(s) != (closed >= 0 && closed <= 6) {
				t.Errorf("IsState(%v) is wrong", s)
			}
		}
	}
	for what, s := range wildStates() {
		if impl.IsState(s) {
			t.Errorf("%s is a state", what)
		}
	}
	for _, s := range []impl.State{{}, {Up: []int{}, Down: []int{}}, {Closed: 6}} {
		if !impl.IsState(s) {
			t.Errorf("a state may have nothing open: %v", s)
		}
	}
}

func TestPromise3IsStateOfManyArches(t *testing.T) {
	for above := 0; above <= 7; above++ {
		for below := 0; below <= 7; below++ {
			for _, s := range statesByWords(min(above, 6), min(below, 6), 6) {
				for range above - 6 {
					s.Up = append(s.Up, 6)
				}
				for range below - 6 {
					s.Down = append(s.Down, 6)
				}
				if impl.IsState(s) != (above <= 6 && below <= 6) {
					t.Errorf("IsState(%v) is wrong", s)
				}
			}
		}
	}
	for _, p := range matchings(4) {
		labels := make([]int, len(p))
		for i, j := range p {
			labels[i] = min(i, j)
		}
		for above := 2; above <= 6; above++ {
			s := numberedByWords(labels[:above], labels[above:], 0)
			if impl.IsState(s) != isStateByWords(s) {
				t.Errorf("IsState(%v) is wrong", s)
			}
		}
	}
}

func TestPromise3Steps(t *testing.T) {
	if s := impl.StartState(); !isZeroResult(s) || !impl.IsState(s) {
		t.Error("the first state", s)
	}
	for _, closed := range []int{0, 1, 5, 6} {
		for _, s := range statesUpTo(6, closed) {
			if closed > 0 && len(s.Up)+len(s.Down) > 8 {
				continue
			}
			for k := range 4 {
				want, wantOk := stepByWords(s, k)
				got, ok := impl.StepState(s, k)
				if ok != wantOk || !sameResult(got, want) {
					t.Errorf("StepState(%v, %d) is %v, %v", s, k, got, ok)
				}
				if ok && !impl.IsState(got) {
					t.Errorf("StepState(%v, %d) is %v, which is no state", s, k, got)
				}
			}
		}
	}
	for _, s := range statesUpTo(3, 2) {
		for _, k := range []int{-1, 4, 5, math.MinInt, math.MaxInt} {
			got, ok := impl.StepState(s, k)
			mustNotSucceed(t, "a step that is none", ok, got)
		}
	}
	for what, s := range wildStates() {
		for k := range 4 {
			got, ok := impl.StepState(s, k)
			mustNotSucceed(t, "a step from what is "+what, ok, got)
		}
	}
}

func TestPromise3StepsAtLimits(t *testing.T) {
	five := impl.State{Up: []int{0, 1, 2, 3, 4}, Down: []int{0, 1, 2, 3, 4}, Closed: 5}
	six := impl.State{Up: []int{0, 1, 2, 3, 4, 5}, Down: []int{0, 1, 2, 3, 4, 5}, Closed: 5}
	fiveClosed := impl.State{Up: five.Up, Down: five.Down, Closed: 6}
	full := impl.State{Up: six.Up, Down: six.Down, Closed: 6}
	if got, ok := impl.StepState(five, 0); !ok || !sameResult(got, six) {
		t.Error("a sixth arch on both sides", got, ok)
	}
	if got, ok := impl.StepState(six, 3); !ok || !sameResult(got, fiveClosed) {
		t.Error("a sixth curve", got, ok)
	}
	for k := range 4 {
		got, ok := impl.StepState(full, k)
		mustNotSucceed(t, "a step too far", ok, got)
	}
	for k := range 3 {
		got, ok := impl.StepState(six, k)
		mustNotSucceed(t, "a seventh arch", ok, got)
	}
	above := impl.State{Up: []int{0, 0, 1, 1, 2, 2}, Closed: 6}
	below := impl.State{Down: []int{0, 0, 1, 1, 2, 2}, Closed: 6}
	for k := range 4 {
		got, ok := impl.StepState(above, k)
		if k != 2 {
			mustNotSucceed(t, "a step over six arches above", ok, got)
		} else if !ok || !sameResult(got, impl.State{Up: []int{0, 0, 1, 1, 2}, Down: []int{2}, Closed: 6}) {
			t.Error("one of six arches above ends", got, ok)
		}
		got, ok = impl.StepState(below, k)
		if k != 1 {
			mustNotSucceed(t, "a step under six arches below", ok, got)
		} else if !ok || !sameResult(got, impl.State{Up: []int{0}, Down: []int{1, 1, 2, 2, 0}, Closed: 6}) {
			t.Error("one of six arches below ends", got, ok)
		}
	}
}

func TestPromise3StepsOfPairs(t *testing.T) {
	pairs := append(pairsUpTo(4), pairsByWords(6)[5000:5300]...)
	for _, m := range pairs {
		want := stepsByWords(m)
		if got, ok := impl.StepsOf(m); !ok || !sameList(got, want) {
			t.Errorf("StepsOf(%v) is %v", m, got)
		}
		if got, ok := impl.PairOfSteps(want); !ok || !sameResult(got, m) {
			t.Errorf("PairOfSteps(%v) is %v", want, got)
		}
	}
	for what, m := range wildPairs() {
		got, ok := impl.StepsOf(m)
		mustNotSucceed(t, "the steps of what is "+what, ok, got)
	}
}

func TestPromise3PairsOfSteps(t *testing.T) {
	pairs := map[string]impl.Meander{}
	text := func(steps []int) string {
		s := ""
		for _, k := range steps {
			s += string(rune('a' + k))
		}
		return s
	}
	for _, m := range pairsUpTo(3) {
		pairs[text(stepsByWords(m))] = m
	}
	for length := 0; length <= 6; length++ {
		for _, steps := range listsOf(length, -1, 4) {
			want, wantOk := pairs[text(steps)]
			if got, ok := impl.PairOfSteps(steps); ok != wantOk || !sameResult(got, want) {
				t.Errorf("PairOfSteps(%v) is %v, %v", steps, got, ok)
			}
		}
	}
	rainbow := []int{0, 0, 0, 0, 0, 0, 3, 3, 3, 3, 3, 3}
	if m, ok := impl.PairOfSteps(rainbow); !ok || pairTextByWords(m) != "(((((())))))|(((((())))))" {
		t.Error("a pair of two rainbows", m)
	}
	for _, steps := range [][]int{slices.Concat([]int{0}, rainbow, []int{3}), slices.Concat(rainbow, []int{0, 3}), append(slices.Clone(rainbow), 3), rainbow[:11], make([]int, 100000), {math.MaxInt, math.MinInt}} {
		got, ok := impl.PairOfSteps(steps)
		mustNotSucceed(t, "the pair of no steps of one", ok, got)
	}
}

func TestPromise3StateBehind(t *testing.T) {
	pairs := append(pairsUpTo(4), pairsByWords(6)[:132]...)
	for rank, m := range pairsByWords(6) {
		if rank%31 == 0 {
			pairs = append(pairs, m)
		}
	}
	for _, m := range pairs {
		for k := -1; k <= len(m.Top)+1; k++ {
			got, ok := impl.StateBehind(m, k)
			if k < 0 || k > len(m.Top) {
				mustNotSucceed(t, "a state behind no points", ok, got)
				continue
			}
			want := behindByWords(m, k)
			if !ok || !sameResult(got, want) {
				t.Errorf("StateBehind(%v, %d) is %v", m, k, got)
			}
			if k < len(m.Top) {
				next, ok := impl.StepState(want, stepsByWords(m)[k])
				if !ok || !sameResult(next, behindByWords(m, k+1)) {
					t.Errorf("the point %d of %v leads to %v", k, m, next)
				}
			}
		}
		whole, ok := impl.StateBehind(m, len(m.Top))
		if !ok || !sameResult(whole, impl.State{Closed: len(curvesByWords(m))}) {
			t.Errorf("behind all points of %v the state is %v", m, whole)
		}
		for _, k := range []int{math.MinInt, math.MaxInt} {
			got, ok := impl.StateBehind(m, k)
			mustNotSucceed(t, "a state far away", ok, got)
		}
	}
	for what, m := range wildPairs() {
		got, ok := impl.StateBehind(m, 0)
		mustNotSucceed(t, "the state of what is "+what, ok, got)
	}
}

func TestPromise3StatesAfter(t *testing.T) {
	pairs := pairsByWords(6)
	for k := 0; k <= 6; k++ {
		var want []impl.State
		met := map[string]bool{}
		for _, m := range pairs {
			// Pairs that begin with the same steps have the same states.
			begin := textByWords(m.Top)[:k] + textByWords(m.Bottom)[:k]
			if met[begin] {
				continue
			}
			met[begin] = true
			s := behindByWords(m, k)
			if s.Closed == 0 && !slices.ContainsFunc(want, func(other impl.State) bool { return sameResult(s, other) }) {
				want = append(want, s)
			}
		}
		slices.SortFunc(want, compareStates)
		if got, ok := impl.StatesAfter(k); !ok || !sameResult(got, want) {
			t.Errorf("StatesAfter(%d) is %v, not %v", k, got, want)
		}
		if got, ok := impl.CountStates(k); !ok || got != len(want) {
			t.Errorf("CountStates(%d) is %d, not %d", k, got, len(want))
		}
	}
	for _, k := range []int{-1, 7, 8, 12, math.MinInt, math.MaxInt} {
		all, ok := impl.StatesAfter(k)
		mustNotSucceed(t, "StatesAfter", ok, all)
		count, ok := impl.CountStates(k)
		mustNotSucceed(t, "CountStates", ok, count)
	}
}

func TestPromise3Counts(t *testing.T) {
	for n := 0; n <= 6; n++ {
		want := make([]int, n+1)
		for _, m := range pairsByWords(n) {
			want[len(curvesByWords(m))]++
		}
		if got, ok := impl.CountByStates(n); !ok || !sameList(got, want) {
			t.Errorf("CountByStates(%d) is %v, not %v", n, got, want)
		}
		if listed, ok := impl.CountByComponents(n); ok && !sameList(listed, want) {
			t.Errorf("CountByComponents(%d) is %v, not %v", n, listed, want)
		}
		got, ok := impl.MeandersByStates(n)
		if n == 0 {
			mustNotSucceed(t, "meanders without arches", ok, got)
		} else if !ok || got != want[1] {
			t.Errorf("MeandersByStates(%d) is %d, not %d", n, got, want[1])
		}
	}
	for _, n := range []int{-1, 7, 8, math.MinInt, math.MaxInt} {
		counts, ok := impl.CountByStates(n)
		mustNotSucceed(t, "CountByStates", ok, counts)
		count, ok := impl.MeandersByStates(n)
		mustNotSucceed(t, "MeandersByStates", ok, count)
	}
}

func TestPromise3KnownMeanders(t *testing.T) {
	for n, want := range []int{1, 2, 8, 42, 262, 1828} {
		if got, ok := impl.MeandersByStates(n + 1); !ok || got != want {
			t.Errorf("MeandersByStates(%d) is %d", n+1, got)
		}
	}
}

func TestPromise3WaysToClose(t *testing.T) {
	for _, closed := range []int{0, 4, 5, 6} {
		for _, s := range statesUpTo(3, closed) {
			for left := 0; left <= 4; left++ {
				for k := 0; k <= 6; k++ {
					want := waysByWords(s, left, k)
					if got, ok := impl.WaysToClose(s, left, k); !ok || got != want {
						t.Errorf("WaysToClose(%v, %d, %d) is %d, not %d", s, left, k, got, want)
					}
				}
			}
		}
	}
	for _, s := range []impl.State{{}, {Closed: 3}, {Up: []int{0, 1}, Down: []int{0, 1}, Closed: 1}, {Up: []int{0, 0, 1, 2}, Down: []int{1, 2}}} {
		for _, k := range []int{1, 2, 3, 4} {
			want := waysByWords(s, 8, k)
			if got, ok := impl.WaysToClose(s, 8, k); !ok || got != want {
				t.Errorf("WaysToClose(%v, 8, %d) is %d, not %d", s, k, got, want)
			}
		}
	}
}

func TestPromise3WaysToCloseOfManyArches(t *testing.T) {
	// A way leads from state to state, so that it has no seventh arch.
	many := append(statesByWords(6, 0, 0), impl.State{Up: []int{0, 1, 2, 3, 4, 5}, Down: []int{0, 1, 2, 3, 4, 5}})
	for _, s := range many {
		for k := 1; k <= 6; k++ {
			for left := 5; left <= 8; left++ {
				want := waysByWords(s, left, k)
				if got, ok := impl.WaysToClose(s, left, k); !ok || got != want {
					t.Errorf("WaysToClose(%v, %d, %d) is %d, not %d", s, left, k, got, want)
				}
			}
		}
	}
}

func TestPromise3WaysOutOfLimits(t *testing.T) {
	one := impl.State{Up: []int{0}, Down: []int{0}, Closed: 2}
	for _, bad := range []int{-1, 9, 10, math.MinInt, math.MaxInt} {
		ways, ok := impl.WaysToClose(one, bad, 3)
		mustNotSucceed(t, "too many steps left", ok, ways)
	}
	for _, bad := range []int{-1, 7, 8, math.MinInt, math.MaxInt} {
		ways, ok := impl.WaysToClose(one, 1, bad)
		mustNotSucceed(t, "too many curves", ok, ways)
	}
	for _, k := range []int{0, 1, 2, 6} {
		if ways, ok := impl.WaysToClose(one, 1, k); ways != 0 || !ok {
			t.Errorf("there is no way to %d curves: %d, %v", k, ways, ok)
		}
	}
	for what, s := range wildStates() {
		for _, left := range []int{0, 8} {
			ways, ok := impl.WaysToClose(s, left, 1)
			mustNotSucceed(t, "ways from what is "+what, ok, ways)
		}
	}
}

func TestPromise3WaysCompletePairs(t *testing.T) {
	counts := map[string][]int{}
	behind := map[string]impl.State{}
	for _, m := range pairsByWords(5) {
		begin := textByWords(m.Top)[:4] + textByWords(m.Bottom)[:4]
		if counts[begin] == nil {
			counts[begin] = make([]int, 7)
			behind[begin] = behindByWords(m, 4)
		}
		counts[begin][len(curvesByWords(m))]++
	}
	for begin, want := range counts {
		for k := range want {
			if got, ok := impl.WaysToClose(behind[begin], 6, k); !ok || got != want[k] {
				t.Errorf("%d pairs with %d components begin with %s, not %d", want[k], k, begin, got)
			}
		}
	}
}

func TestPromise3FewestSteps(t *testing.T) {
	for _, s := range statesUpTo(6, 0) {
		fewest, ok := impl.FewestSteps(s)
		if !ok || fewest != max(len(s.Up), len(s.Down)) {
			t.Errorf("FewestSteps(%v) is %d", s, fewest)
		}
		for left := 0; left <= fewest; left++ {
			all := 0
			for k := 0; k <= 6; k++ {
				ways, _ := impl.WaysToClose(s, left, k)
				all += ways
			}
			if (all > 0) != (left == fewest) {
				t.Errorf("there are %d ways to close %v by %d steps", all, s, left)
			}
		}
	}
	for closed := 0; closed <= 6; closed++ {
		for _, s := range statesUpTo(3, closed) {
			if fewest, ok := impl.FewestSteps(s); !ok || fewest != max(len(s.Up), len(s.Down)) {
				t.Errorf("FewestSteps(%v) is %d", s, fewest)
			}
		}
	}
	for what, s := range wildStates() {
		fewest, ok := impl.FewestSteps(s)
		mustNotSucceed(t, "the fewest steps of what is "+what, ok, fewest)
	}
}

func TestPromise3Mirror(t *testing.T) {
	for _, closed := range []int{0, 3, 6} {
		for _, s := range statesUpTo(6, closed) {
			got, ok := impl.MirrorState(s)
			if !ok || !sameResult(got, mirroredByWords(s)) || !impl.IsState(got) {
				t.Fatalf("MirrorState(%v) is %v", s, got)
			}
			if back, ok := impl.MirrorState(got); !ok || !sameResult(back, s) {
				t.Fatalf("mirrored twice, %v is %v", s, back)
			}
			for k := range 4 {
				a, aOk := impl.StepState(s, k)
				b, bOk := impl.StepState(got, []int{0, 2, 1, 3}[k])
				if aOk != bOk || !sameResult(b, mirroredByWords(a)) {
					t.Fatalf("step %d of %v leads to %v, the other way round to %v", k, s, a, b)
				}
			}
		}
	}
	for what, s := range wildStates() {
		got, ok := impl.MirrorState(s)
		mustNotSucceed(t, "the mirror image of what is "+what, ok, got)
	}
}

func TestPromise3MirroredPairs(t *testing.T) {
	for _, m := range pairsUpTo(4) {
		flipped := impl.Meander{Top: m.Bottom, Bottom: m.Top}
		for k := 0; k <= len(m.Top); k++ {
			s, _ := impl.StateBehind(m, k)
			mirrored, _ := impl.MirrorState(s)
			if got, ok := impl.StateBehind(flipped, k); !ok || !sameResult(got, mirrored) {
				t.Errorf("behind %d points of %v flipped is %v", k, m, got)
			}
		}
	}
}

func TestPromise3Example(t *testing.T) {
	m, _ := impl.ParseMeander("(())|()()")
	if steps, ok := impl.StepsOf(m); !ok || !sameList(steps, []int{0, 1, 2, 3}) {
		t.Error("steps", steps)
	}
	if back, ok := impl.PairOfSteps([]int{0, 1, 2, 3}); !ok || !sameResult(back, m) {
		t.Error("pair", back)
	}
	above := impl.State{Up: []int{0, 0}}
	if s, ok := impl.StateBehind(m, 2); !ok || !sameResult(s, above) {
		t.Error("state", s)
	}
	three := []impl.State{{Down: []int{0, 0}}, above, {Up: []int{0, 1}, Down: []int{0, 1}}}
	slices.SortFunc(three, compareStates)
	if all, ok := impl.StatesAfter(2); !ok || !sameResult(all, three) {
		t.Error("states", all)
	}
	if n, ok := impl.CountStates(2); n != 3 || !ok {
		t.Error("states", n)
	}
}

func TestPromise3JoinedParts(t *testing.T) {
	for _, c := range []struct {
		from impl.State
		step int
		to   impl.State
	}{
		{impl.State{}, 0, impl.State{Up: []int{0}, Down: []int{0}}},
		{impl.State{Up: []int{0}, Down: []int{0}}, 3, impl.State{Closed: 1}},
		{impl.State{Up: []int{0, 1}, Down: []int{0, 1}}, 1, impl.State{Up: []int{0, 1, 1}, Down: []int{0}}},
		{impl.State{Up: []int{0, 1, 1}, Down: []int{0}}, 1, impl.State{Up: []int{0, 1, 1, 0}}},
		{impl.State{Up: []int{0, 0, 1}, Down: []int{1, 2, 2}}, 3, impl.State{Up: []int{0, 0}, Down: []int{1, 1}}},
		{impl.State{Up: []int{0, 1, 1}, Down: []int{0}, Closed: 2}, 3, impl.State{Up: []int{0, 0}, Closed: 2}},
		{impl.State{Up: []int{0}, Down: []int{0, 1, 1}}, 2, impl.State{Down: []int{0, 1, 1, 0}}},
		{impl.State{Up: []int{0}, Down: []int{0, 1, 1}}, 3, impl.State{Down: []int{0, 0}}},
	} {
		if got, ok := impl.StepState(c.from, c.step); !ok || !sameResult(got, c.to) {
			t.Errorf("StepState(%v, %d) is %v", c.from, c.step, got)
		}
	}
}

func TestPromise3NothingOpen(t *testing.T) {
	for closed := 0; closed <= 6; closed++ {
		s := impl.State{Up: []int{}, Closed: closed}
		if fewest, ok := impl.FewestSteps(s); fewest != 0 || !ok {
			t.Error("fewest steps", fewest, ok)
		}
		if got, ok := impl.MirrorState(s); !ok || !sameResult(got, s) {
			t.Error("mirror image", got, ok)
		}
		for k := 0; k <= 6; k++ {
			ways, ok := impl.WaysToClose(s, 0, k)
			if !ok || (ways == 1) != (k == closed) || ways > 1 {
				t.Errorf("%d ways from %v to %d curves without steps", ways, s, k)
			}
		}
		for k := 1; k <= 3; k++ {
			got, ok := impl.StepState(s, k)
			mustNotSucceed(t, "an end of no arch", ok, got)
		}
	}
	for _, m := range []impl.Meander{{}, {Top: []int{}, Bottom: []int{}}} {
		if steps, ok := impl.StepsOf(m); !ok || len(steps) != 0 {
			t.Error("steps of no arches", steps, ok)
		}
		if s, ok := impl.StateBehind(m, 0); !ok || !isZeroResult(s) {
			t.Error("the state of no arches", s, ok)
		}
		s, ok := impl.StateBehind(m, 1)
		mustNotSucceed(t, "a point of no arches", ok, s)
	}
	for _, steps := range [][]int{nil, {}} {
		if m, ok := impl.PairOfSteps(steps); !ok || !isZeroResult(m) {
			t.Error("the pair of no steps", m, ok)
		}
	}
	if all, ok := impl.StatesAfter(0); !ok || !sameResult(all, []impl.State{{}}) {
		t.Error("states before all points", all, ok)
	}
	if counts, ok := impl.CountByStates(0); !ok || !sameList(counts, []int{1}) {
		t.Error("counts of pairs without arches", counts, ok)
	}
}
