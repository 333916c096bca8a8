package tests

import (
	"strings"
	"testing"

	"loop.example/g01126/impl"
)

// archCalls returns the functions of chapter 1 that take at least one system,
// as calls with two lists and two numbers of which each one uses what it needs.
func archCalls() map[string]func(p, q []int, i, j int) (any, bool) {
	return map[string]func(p, q []int, i, j int) (any, bool){
		"RankSystem":   func(p, q []int, i, j int) (any, bool) { return pack(impl.RankSystem(p)) },
		"NextSystem":   func(p, q []int, i, j int) (any, bool) { return pack(impl.NextSystem(p)) },
		"TurnSystem":   func(p, q []int, i, j int) (any, bool) { return pack(impl.TurnSystem(p, i)) },
		"MirrorSystem": func(p, q []int, i, j int) (any, bool) { return pack(impl.MirrorSystem(p)) },
		"JoinSystems":  func(p, q []int, i, j int) (any, bool) { return pack(impl.JoinSystems(p, q)) },
		"CoverSystem":  func(p, q []int, i, j int) (any, bool) { return pack(impl.CoverSystem(p)) },
		"OuterArches":  func(p, q []int, i, j int) (any, bool) { return pack(impl.OuterArches(p)) },
		"DepthsOf":     func(p, q []int, i, j int) (any, bool) { return pack(impl.DepthsOf(p)) },
		"SmallArches":  func(p, q []int, i, j int) (any, bool) { return pack(impl.SmallArches(p)) },
		"DropArch":     func(p, q []int, i, j int) (any, bool) { return pack(impl.DropArch(p, i)) },
		"PutArch":      func(p, q []int, i, j int) (any, bool) { return pack(impl.PutArch(p, i, j)) },
		"SystemText":   func(p, q []int, i, j int) (any, bool) { return pack(impl.SystemText(p)) },
	}
}

// numberCalls returns the functions of chapter 1 that take numbers alone.
func numberCalls() map[string]func(i, j int) (any, bool) {
	return map[string]func(i, j int) (any, bool){
		"AllSystems":   func(i, j int) (any, bool) { return pack(impl.AllSystems(i)) },
		"CountSystems": func(i, j int) (any, bool) { return pack(impl.CountSystems(i)) },
		"SystemWith":   func(i, j int) (any, bool) { return pack(impl.SystemWith(i, j)) },
		"RainbowOf":    func(i, j int) (any, bool) { return pack(impl.RainbowOf(i)) },
		"FlatOf":       func(i, j int) (any, bool) { return pack(impl.FlatOf(i)) },
	}
}

func TestPromise11ArchSystemsAreNotChanged(t *testing.T) {
	lists := append(systemsUpTo(4), nil)
	lists = append(lists, systemsByWords(5)[40], systemsByWords(6)[0], systemsByWords(6)[131])
	for _, p := range wildLists() {
		lists = append(lists, p)
	}
	seconds := [][]int{nil, {1, 0}, {2, 3, 0, 1}, {11, 10, 9, 8, 7, 6, 5, 4, 3, 2, 1, 0}}
	for name, call := range archCalls() {
		for _, p := range lists {
			for _, q := range seconds {
				a, b := newGuard(p), newGuard(q)
				checkCall(t, name, func() (any, bool) { return call(a.list, b.list, 1, 2) })
				if !a.isUnchanged() || !b.isUnchanged() {
					t.Fatalf("%s changes its arguments %v and %v", name, p, q)
				}
			}
		}
	}
	for _, p := range lists {
		a := newGuard(p)
		if impl.IsSystem(a.list) != isSystemByWords(p) || !a.isUnchanged() {
			t.Fatalf("IsSystem of %d points is wrong or changes them", len(p))
		}
	}
}

func TestPromise11ArchNumbers(t *testing.T) {
	lists := [][]int{nil, {1, 0}, {3, 2, 1, 0, 5, 4}, {2, 3, 0, 1}, {1, 0, 3, 2, 5, 4, 7, 6, 9, 8}, {11, 10, 9, 8, 7, 6, 5, 4, 3, 2, 1, 0}}
	for _, i := range wildNumbers() {
		for _, j := range wildNumbers() {
			for name, call := range numberCalls() {
				checkCall(t, name, func() (any, bool) { return call(i, j) })
			}
			for _, p := range lists {
				for name, call := range archCalls() {
					a := newGuard(p)
					checkCall(t, name, func() (any, bool) { return call(a.list, nil, i, j) })
					if !a.isUnchanged() {
						t.Fatalf("%s(%v) with %d and %d changes its argument", name, p, i, j)
					}
				}
			}
		}
	}
}

func TestPromise11NoSystems(t *testing.T) {
	for what, p := range wildLists() {
		for name, call := range archCalls() {
			result, ok := call(p, nil, 0, 1)
			mustNotSucceed(t, name+" of what is "+what, ok, result)
		}
		result, ok := impl.JoinSystems(nil, p)
		mustNotSucceed(t, "JoinSystems with what is "+what, ok, result)
		result, ok = impl.JoinSystems(p, p)
		mustNotSucceed(t, "JoinSystems of twice what is "+what, ok, result)
	}
}

func TestPromise11ArchTexts(t *testing.T) {
	for _, s := range []string{"", "()", "(())()", "((((((", "))))))", strings.Repeat("(", 1<<20), "\xff\xfe", "(\x00)"} {
		checkCall(t, "ParseSystem", func() (any, bool) { return pack(impl.ParseSystem(s)) })
	}
}
