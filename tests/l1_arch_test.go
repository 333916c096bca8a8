package tests

import (
	"math"
	"slices"
	"strings"
	"testing"

	"loop.example/g01126/impl"
)

func TestPromise1IsSystem(t *testing.T) {
	for n := 0; n <= 6; n++ {
		for _, p := range matchings(n) {
			if impl.IsSystem(p) != isSystemByWords(p) {
				t.Errorf("IsSystem(%v) is %v", p, impl.IsSystem(p))
			}
		}
	}
	for size := 0; size <= 4; size++ {
		p := make([]int, size)
		var all func(int)
		all = func(i int) {
			if i == size {
				if impl.IsSystem(p) != isSystemByWords(p) {
					t.Errorf("IsSystem(%v) is %v", p, impl.IsSystem(p))
				}
				return
			}
			for p[i] = -1; p[i] <= size; p[i]++ {
				all(i + 1)
			}
		}
		all(0)
	}
	if !impl.IsSystem(nil) || !impl.IsSystem([]int{}) {
		t.Error("a system may have no arches")
	}
	for what, p := range wildLists() {
		if impl.IsSystem(p) {
			t.Errorf("%s is a system", what)
		}
	}
}

func TestPromise1ListsAndRanks(t *testing.T) {
	counts := []int{1, 1, 2, 5, 14, 42, 132}
	for n := 0; n <= 6; n++ {
		want := systemsByWords(n)
		got, ok := impl.AllSystems(n)
		if !ok || !sameLists(got, want) || len(got) != counts[n] {
			t.Fatalf("AllSystems(%d) is %v", n, got)
		}
		if c, ok := impl.CountSystems(n); !ok || c != counts[n] {
			t.Errorf("CountSystems(%d) is %d", n, c)
		}
		for rank, p := range want {
			if q, ok := impl.SystemWith(n, rank); !ok || !sameList(q, p) {
				t.Errorf("SystemWith(%d, %d) is %v", n, rank, q)
			}
			if r, ok := impl.RankSystem(p); !ok || r != rank {
				t.Errorf("RankSystem(%v) is %d", p, r)
			}
			q, ok := impl.NextSystem(p)
			if rank+1 == len(want) {
				mustNotSucceed(t, "next of the last one", ok, q)
			} else if !ok || !sameList(q, want[rank+1]) {
				t.Errorf("NextSystem(%v) is %v", p, q)
			}
		}
		for _, rank := range []int{-1, math.MinInt, len(want), math.MaxInt} {
			q, ok := impl.SystemWith(n, rank)
			mustNotSucceed(t, "a rank of no system", ok, q)
		}
	}
	for _, n := range []int{-1, 7, 8, math.MinInt, math.MaxInt} {
		all, ok := impl.AllSystems(n)
		mustNotSucceed(t, "AllSystems", ok, all)
		c, ok := impl.CountSystems(n)
		mustNotSucceed(t, "CountSystems", ok, c)
		q, ok := impl.SystemWith(n, 0)
		mustNotSucceed(t, "SystemWith", ok, q)
	}
}

func TestPromise1RainbowAndFlat(t *testing.T) {
	rainbows := []string{"", "()", "(())", "((()))", "(((())))", "((((()))))", "(((((())))))"}
	for n, text := range rainbows {
		p, ok := impl.RainbowOf(n)
		if !ok || !isSystemByWords(p) || textByWords(p) != text {
			t.Errorf("RainbowOf(%d) is %v", n, p)
		}
		p, ok = impl.FlatOf(n)
		if !ok || !isSystemByWords(p) || textByWords(p) != strings.Repeat("()", n) {
			t.Errorf("FlatOf(%d) is %v", n, p)
		}
	}
	for _, n := range []int{-1, 7, math.MinInt, math.MaxInt} {
		p, ok := impl.RainbowOf(n)
		mustNotSucceed(t, "RainbowOf", ok, p)
		p, ok = impl.FlatOf(n)
		mustNotSucceed(t, "FlatOf", ok, p)
	}
}

// movedBy returns the list in which place(i) and place(j) are joined if i and j are.
func movedBy(p []int, place func(int) int) []int {
	q := make([]int, len(p))
	for i, j := range p {
		q[place(i)] = place(j)
	}
	return q
}

func TestPromise1TurnAndMirror(t *testing.T) {
	for _, p := range systemsUpTo(5) {
		size := len(p)
		for by := -100; by <= 100; by++ {
			want := movedBy(p, func(i int) int { return (i + by + 1000*size) % size })
			if q, ok := impl.TurnSystem(p, by); !ok || !sameList(q, want) {
				t.Errorf("TurnSystem(%v, %d) is %v", p, by, q)
			}
		}
		want := movedBy(p, func(i int) int { return size - 1 - i })
		if q, ok := impl.MirrorSystem(p); !ok || !sameList(q, want) {
			t.Errorf("MirrorSystem(%v) is %v", p, q)
		}
		for _, by := range []int{-101, 101, math.MinInt, math.MaxInt} {
			q, ok := impl.TurnSystem(p, by)
			mustNotSucceed(t, "a turn too far", ok, q)
		}
	}
}

func TestPromise1JoinAndCover(t *testing.T) {
	all := systemsUpTo(4)
	for _, a := range all {
		for _, b := range all {
			want := slices.Clone(a)
			for _, j := range b {
				want = append(want, j+len(a))
			}
			q, ok := impl.JoinSystems(a, b)
			if len(want) > 12 {
				mustNotSucceed(t, "a join of too many arches", ok, q)
			} else if !ok || !sameList(q, want) {
				t.Errorf("JoinSystems(%v, %v) is %v", a, b, q)
			}
		}
	}
	for _, p := range systemsUpTo(6) {
		want := []int{len(p) + 1}
		for _, j := range p {
			want = append(want, j+1)
		}
		want = append(want, 0)
		q, ok := impl.CoverSystem(p)
		if len(p) == 12 {
			mustNotSucceed(t, "a cover of too many arches", ok, q)
			q, ok = impl.JoinSystems(p, []int{1, 0})
			mustNotSucceed(t, "an arch too many behind", ok, q)
			if q, ok := impl.JoinSystems(p, nil); !ok || !sameList(q, p) {
				t.Errorf("%v and nothing behind are %v", p, q)
			}
			if q, ok := impl.JoinSystems(nil, p); !ok || !sameList(q, p) {
				t.Errorf("%v behind nothing are %v", p, q)
			}
		} else if !ok || !sameList(q, want) {
			t.Errorf("CoverSystem(%v) is %v", p, q)
		}
	}
}

func TestPromise1OuterDepthsAndSmall(t *testing.T) {
	for _, p := range systemsUpTo(6) {
		var outer, depths, small []int
		for i, j := range p {
			if j < i {
				continue
			}
			depths = append(depths, arcsOver(p, i))
			if arcsOver(p, i) == 0 {
				outer = append(outer, i)
			}
			if j == i+1 {
				small = append(small, i)
			}
		}
		if got, ok := impl.OuterArches(p); !ok || !sameList(got, outer) {
			t.Errorf("OuterArches(%v) is %v", p, got)
		}
		if got, ok := impl.DepthsOf(p); !ok || !sameList(got, depths) {
			t.Errorf("DepthsOf(%v) is %v", p, got)
		}
		if got, ok := impl.SmallArches(p); !ok || !sameList(got, small) {
			t.Errorf("SmallArches(%v) is %v", p, got)
		}
	}
}

func TestPromise1DropAndPut(t *testing.T) {
	for _, p := range systemsUpTo(6) {
		places := []int{math.MinInt, math.MaxInt}
		for i := -2; i <= len(p)+3; i++ {
			places = append(places, i)
		}
		for _, i := range places {
			q, ok := impl.DropArch(p, i)
			if i < 0 || i >= len(p) || p[i] < i {
				mustNotSucceed(t, "no arch to drop", ok, q)
			} else if !ok || !sameList(q, withoutPoints(p, i, p[i])) {
				t.Errorf("DropArch(%v, %d) is %v", p, i, q)
			}
		}
		wider := systemsWider(p)
		for _, i := range places {
			for _, j := range places {
				q, ok := impl.PutArch(p, i, j)
				if want, found := wider[[2]int{i, j}]; !found {
					mustNotSucceed(t, "no place for an arch", ok, q)
				} else if !ok || !sameList(q, want) {
					t.Errorf("PutArch(%v, %d, %d) is %v", p, i, j, q)
				}
			}
		}
	}
}

// systemsWider returns, by the ends of one arch, the systems that are p without it.
func systemsWider(p []int) map[[2]int][]int {
	wider := map[[2]int][]int{}
	if len(p) >= 12 {
		return wider
	}
	all, _ := impl.AllSystems(len(p)/2 + 1)
	for _, q := range all {
		for i, j := range q {
			if i < j && sameList(withoutPoints(q, i, j), p) {
				wider[[2]int{i, j}] = q
			}
		}
	}
	return wider
}

func TestPromise1Texts(t *testing.T) {
	for _, p := range systemsUpTo(6) {
		s, ok := impl.SystemText(p)
		if !ok || s != textByWords(p) {
			t.Errorf("SystemText(%v) is %q", p, s)
		}
		if q, ok := impl.ParseSystem(s); !ok || !sameList(q, p) {
			t.Errorf("ParseSystem(%q) is %v", s, q)
		}
	}
	wild := []string{
		"(", ")", ")(", "())", "(()", "())(", "(()))(", " ", "()\n", " ()", "( )", "[]", "()x", "(-)", "()()()()()()()", "((((((()))))))",
		"\x00", "(\xff)", "()|()", strings.Repeat("(", 6), strings.Repeat("(", 12), strings.Repeat(")", 12), strings.Repeat("()", 1<<16),
	}
	for _, s := range wild {
		q, ok := impl.ParseSystem(s)
		mustNotSucceed(t, "text "+s[:min(len(s), 20)], ok, q)
	}
	texts := map[string]bool{}
	for _, p := range systemsUpTo(3) {
		texts[textByWords(p)] = true
	}
	var all func(string)
	all = func(s string) {
		q, ok := impl.ParseSystem(s)
		if ok != texts[s] || ok && textByWords(q) != s {
			t.Errorf("ParseSystem(%q) is %v", s, q)
		}
		if len(s) < 6 {
			all(s + "(")
			all(s + ")")
			all(s + "-")
		}
	}
	all("")
}

func TestPromise1Example(t *testing.T) {
	p, ok := impl.ParseSystem("(())()")
	if !ok || !sameList(p, []int{3, 2, 1, 0, 5, 4}) {
		t.Fatal("system", p)
	}
	if got, ok := impl.OuterArches(p); !ok || !sameList(got, []int{0, 4}) {
		t.Error("outer", got)
	}
	if got, ok := impl.DepthsOf(p); !ok || !sameList(got, []int{0, 1, 0}) {
		t.Error("depths", got)
	}
	if got, ok := impl.SmallArches(p); !ok || !sameList(got, []int{1, 4}) {
		t.Error("small", got)
	}
	if got, ok := impl.PutArch([]int{1, 0}, 1, 2); !ok || !sameList(got, []int{3, 2, 1, 0}) {
		t.Error("put", got)
	}
}

func TestPromise1WithoutArches(t *testing.T) {
	none := [][]int{nil, {}}
	for _, p := range none {
		for name, q := range map[string]func() ([]int, bool){
			"SystemWith":   func() ([]int, bool) { return impl.SystemWith(0, 0) },
			"RainbowOf":    func() ([]int, bool) { return impl.RainbowOf(0) },
			"FlatOf":       func() ([]int, bool) { return impl.FlatOf(0) },
			"TurnSystem":   func() ([]int, bool) { return impl.TurnSystem(p, -100) },
			"MirrorSystem": func() ([]int, bool) { return impl.MirrorSystem(p) },
			"JoinSystems":  func() ([]int, bool) { return impl.JoinSystems(p, p) },
			"OuterArches":  func() ([]int, bool) { return impl.OuterArches(p) },
			"DepthsOf":     func() ([]int, bool) { return impl.DepthsOf(p) },
			"SmallArches":  func() ([]int, bool) { return impl.SmallArches(p) },
			"ParseSystem":  func() ([]int, bool) { return impl.ParseSystem("") },
		} {
			if got, ok := q(); !ok || len(got) != 0 {
				t.Errorf("%s: %v, %v", name, got, ok)
			}
		}
		if s, ok := impl.SystemText(p); s != "" || !ok {
			t.Error("the text of no arches", s, ok)
		}
		if r, ok := impl.RankSystem(p); r != 0 || !ok {
			t.Error("the rank of no arches", r, ok)
		}
		if all, ok := impl.AllSystems(0); !ok || len(all) != 1 || len(all[0]) != 0 {
			t.Error("all systems of no arches", all, ok)
		}
		if q, ok := impl.CoverSystem(p); !ok || !sameList(q, []int{1, 0}) {
			t.Error("a cover of no arches", q)
		}
		if q, ok := impl.PutArch(p, 0, 1); !ok || !sameList(q, []int{1, 0}) {
			t.Error("an arch put to no arches", q)
		}
		q, ok := impl.NextSystem(p)
		mustNotSucceed(t, "the one behind no arches", ok, q)
		q, ok = impl.DropArch(p, 0)
		mustNotSucceed(t, "an arch of no arches", ok, q)
	}
}
