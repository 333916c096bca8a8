package tests

import (
	"strings"
	"testing"

	"loop.example/g01126/impl"
)

// stackCalls returns the functions of chapter 4 that take a stack, as calls with
// a number that they may use.
func stackCalls() map[string]func(p []int, by int) (any, bool) {
	return map[string]func(p []int, by int) (any, bool){
		"IsFolding":       func(p []int, by int) (any, bool) { return pack(impl.IsFolding(p)) },
		"CrossedArcs":     func(p []int, by int) (any, bool) { return pack(impl.CrossedArcs(p)) },
		"TurnFolding":     func(p []int, by int) (any, bool) { return pack(impl.TurnFolding(p, by)) },
		"ReverseFolding":  func(p []int, by int) (any, bool) { return pack(impl.ReverseFolding(p)) },
		"RenumberFolding": func(p []int, by int) (any, bool) { return pack(impl.RenumberFolding(p)) },
		"AddStamp":        func(p []int, by int) (any, bool) { return pack(impl.AddStamp(p)) },
		"SemiOfFolding":   func(p []int, by int) (any, bool) { return pack(impl.SemiOfFolding(p)) },
		"FoldingText":     func(p []int, by int) (any, bool) { return pack(impl.FoldingText(p)) },
	}
}

// semiCalls returns the functions of chapter 4 that take an arch system.
func semiCalls() map[string]func(p []int) (any, bool) {
	return map[string]func(p []int) (any, bool){
		"IsSemi":        func(p []int) (any, bool) { return pack(impl.IsSemi(p)) },
		"FoldingOfSemi": func(p []int) (any, bool) { return pack(impl.FoldingOfSemi(p)) },
		"WindingOf":     func(p []int) (any, bool) { return pack(impl.WindingOf(p)) },
	}
}

// stampCountCalls returns the functions of chapter 4 that take a number alone.
func stampCountCalls() map[string]func(n int) (any, bool) {
	return map[string]func(n int) (any, bool){
		"CountFoldings":    func(n int) (any, bool) { return pack(impl.CountFoldings(n)) },
		"AllFoldings":      func(n int) (any, bool) { return pack(impl.AllFoldings(n)) },
		"CountOnTop":       func(n int) (any, bool) { return pack(impl.CountOnTop(n)) },
		"FoldingsOnTop":    func(n int) (any, bool) { return pack(impl.FoldingsOnTop(n)) },
		"AllSemis":         func(n int) (any, bool) { return pack(impl.AllSemis(n)) },
		"SpreadOfWindings": func(n int) (any, bool) { return pack(impl.SpreadOfWindings(n)) },
	}
}

// listsForStamps are stacks and arch systems, and lists that are neither.
func listsForStamps() [][]int {
	lists := append(stacksUpTo(5), onTopByWords(6)...)
	lists = append(lists, onTopByWords(7)[:5]...)
	lists = append(lists, stacksByWords(8)[1000:1010]...)
	lists = append(lists, systemsUpTo(4)...)
	lists = append(lists, semisByWords(6)...)
	for _, p := range wildStacks() {
		lists = append(lists, p)
	}
	for _, p := range wildLists() {
		lists = append(lists, p)
	}
	return lists
}

func TestPromise11StacksAreNotChanged(t *testing.T) {
	for _, p := range listsForStamps() {
		g := newGuard(p)
		for name, call := range stackCalls() {
			checkCall(t, name, func() (any, bool) { return call(g.list, 1) })
			if !g.isUnchanged() {
				t.Fatalf("%s changes its argument %v", name, p)
			}
		}
		for name, call := range semiCalls() {
			checkCall(t, name, func() (any, bool) { return call(g.list) })
			if !g.isUnchanged() {
				t.Fatalf("%s changes its argument %v", name, p)
			}
		}
	}
}

func TestPromise11StampNumbers(t *testing.T) {
	for _, i := range wildNumbers() {
		for name, call := range stampCountCalls() {
			checkCall(t, name, func() (any, bool) { return call(i) })
		}
		for _, p := range [][]int{nil, {0}, {0, 2, 1, 3}, {6, 0, 5, 1, 4, 2, 3}, {i}, {0, i}, {i, i, i}, {1, 0, i, 2}} {
			for name, call := range stackCalls() {
				checkCall(t, name, func() (any, bool) { return call(p, i) })
			}
			for name, call := range semiCalls() {
				checkCall(t, name, func() (any, bool) { return call(p) })
			}
		}
	}
}

func TestPromise11NoStacks(t *testing.T) {
	for what, p := range wildStacks() {
		for name, call := range stackCalls() {
			result, ok := call(p, 0)
			mustNotSucceed(t, name+" of what is "+what, ok, result)
		}
	}
	for what, p := range wildLists() {
		for name, call := range semiCalls() {
			result, ok := call(p)
			mustNotSucceed(t, name+" of what is "+what, ok, result)
		}
	}
}

func TestPromise11FoldingTexts(t *testing.T) {
	for _, s := range []string{"", "0", "1", "10", "0213", "01234567", "012345678", "-1", "\xff\xfe", "0\x00", strings.Repeat("0", 1<<20)} {
		checkCall(t, "ParseFolding", func() (any, bool) { return pack(impl.ParseFolding(s)) })
	}
}
