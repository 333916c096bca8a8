package tests

import (
	"math"
	"slices"
	"strings"
	"testing"

	"loop.example/g01126/impl"
)

func mustParseSeaweed(t *testing.T, text string) impl.Seaweed {
	t.Helper()
	s, ok := impl.ParseSeaweed(text)
	if !ok {
		t.Fatalf("ParseSeaweed(%q) fails", text)
	}
	return s
}

func TestPromise7Examples(t *testing.T) {
	s := mustParseSeaweed(t, "2+1|3")
	if !sameResult(s, impl.Seaweed{Top: []int{2, 1}, Bottom: []int{3}}) {
		t.Error("the seaweed of the example", s)
	}
	if paths, ok := impl.PathsOf(s); !ok || !sameLists(paths, [][]int{{0, 1, 2}}) {
		t.Error("its paths", paths, ok)
	}
	if cycles, ok := impl.CyclesOf(s); !ok || len(cycles) != 0 {
		t.Error("its cycles", cycles, ok)
	}
	if index, ok := impl.IndexOf(s); !ok || index != 0 {
		t.Error("its index", index, ok)
	}
	steps := []struct{ text, letter, behind string }{
		{"2+1|3", "F", "3|2+1"},
		{"3|2+1", "R", "2|1+1"},
		{"2|1+1", "B", "1|1"},
		{"1|1", "C", "-|-"},
		{"5+1|2+4", "P", "1+2+1|4"},
	}
	for _, e := range steps {
		behind, letter, ok := impl.WindStep(mustParseSeaweed(t, e.text))
		if text, _ := impl.SeaweedText(behind); !ok || letter != e.letter || text != e.behind {
			t.Errorf("WindStep of %s is %s, %s, %v", e.text, text, letter, ok)
		}
	}
	if word, ok := impl.WindWord(s); !ok || word != "FRBC" {
		t.Error("its word", word, ok)
	}
	if run, ok := impl.WindRun(s); !ok || !slices.Equal(run, []string{"2+1|3", "3|2+1", "2|1+1", "1|1", "-|-"}) {
		t.Error("its run", run, ok)
	}
	four := mustParseSeaweed(t, "4|4")
	if cycles, ok := impl.CyclesOf(four); !ok || !sameLists(cycles, [][]int{{0, 3}, {1, 2}}) {
		t.Error("the cycles of 4|4", cycles, ok)
	}
	if paths, cycles, ok := impl.CountBoth(four); !ok || paths != 0 || cycles != 2 {
		t.Error("the counts of 4|4", paths, cycles, ok)
	}
	if index, ok := impl.IndexOf(four); !ok || index != 3 {
		t.Error("the index of 4|4", index, ok)
	}
}

// TestPromise7NoParts has the seaweed of no parts, which has no points.
func TestPromise7NoParts(t *testing.T) {
	for _, none := range []impl.Seaweed{{}, {Top: []int{}, Bottom: []int{}}, {Top: []int{}}} {
		if !impl.IsSeaweed(none) {
			t.Error("no parts are no seaweed")
		}
		for _, find := range []func(impl.Seaweed) ([][]int, bool){impl.PathsOf, impl.CyclesOf} {
			if found, ok := find(none); !ok || len(found) != 0 {
				t.Error("paths or cycles of no parts", found, ok)
			}
		}
		for _, count := range []func(impl.Seaweed) (int, int, bool){impl.CountBoth, impl.CountByWinding} {
			if paths, cycles, ok := count(none); !ok || paths != 0 || cycles != 0 {
				t.Error("counts of no parts", paths, cycles, ok)
			}
		}
		if index, ok := impl.IndexOf(none); !ok || index != -1 {
			t.Error("the index of no parts", index, ok)
		}
		behind, letter, ok := impl.WindStep(none)
		mustNotSucceed(t, "a step of no parts", ok, behind, letter)
		if word, ok := impl.WindWord(none); !ok || word != "" {
			t.Error("the word of no parts", word, ok)
		}
		if run, ok := impl.WindRun(none); !ok || !slices.Equal(run, []string{"-|-"}) {
			t.Error("the run of no parts", run, ok)
		}
		for _, move := range []func(impl.Seaweed) (impl.Seaweed, bool){impl.FlipSeaweed, impl.MirrorSeaweed} {
			if moved, ok := move(none); !ok || !isZeroResult(moved) {
				t.Error("no parts moved", moved, ok)
			}
		}
		if joined, ok := impl.JoinSeaweeds(none, none); !ok || !isZeroResult(joined) {
			t.Error("no parts behind no parts", joined, ok)
		}
		if text, ok := impl.SeaweedText(none); !ok || text != "-|-" {
			t.Error("the text of no parts", text, ok)
		}
	}
	if arcs, ok := impl.ArcsOf(nil); !ok || len(arcs) != 0 {
		t.Error("the arcs of no parts", arcs, ok)
	}
	if s, ok := impl.ParseSeaweed("-|-"); !ok || !isZeroResult(s) {
		t.Error("the seaweed of no parts", s, ok)
	}
}

func TestPromise7IsSeaweed(t *testing.T) {
	lists := wildPartLists()
	for _, top := range lists {
		for _, bottom := range lists {
			s := impl.Seaweed{Top: top, Bottom: bottom}
			if got := impl.IsSeaweed(s); got != isSeaweedByWords(s) {
				t.Fatalf("IsSeaweed(%v) is %v", s, got)
			}
		}
	}
	for _, s := range seaweedsToTry() {
		if !impl.IsSeaweed(s) {
			t.Errorf("IsSeaweed(%v) is false", s)
		}
	}
	for what, s := range wildSeaweeds() {
		if isSeaweedByWords(s) {
			t.Fatalf("the test takes what is %s for wild", what)
		}
		if impl.IsSeaweed(s) {
			t.Errorf("what is %s is a seaweed", what)
		}
	}
}

// wildPartLists are short lists of any numbers, and some around the greatest sum.
func wildPartLists() [][]int {
	var lists [][]int
	for length := range 4 {
		lists = append(lists, listsOf(length, -1, 3)...)
	}
	for part := 18; part <= 22; part++ {
		lists = append(lists, []int{part}, []int{part, -1}, []int{part - 1, 1}, []int{1, part - 1}, slices.Repeat([]int{1}, part), []int{part - 10, 10})
	}
	return lists
}

func TestPromise7Arcs(t *testing.T) {
	for sum := range 13 {
		for _, parts := range partsByWords(sum) {
			if got, ok := impl.ArcsOf(parts); !ok || !sameList(got, arcsByWords(parts)) {
				t.Fatalf("ArcsOf(%v) is %v, %v", parts, got, ok)
			}
		}
	}
	for _, parts := range wildPartLists() {
		got, ok := impl.ArcsOf(parts)
		if !arePartsByWords(parts) {
			mustNotSucceed(t, "the arcs of what are no parts", ok, got)
		} else if !ok || !sameList(got, arcsByWords(parts)) {
			t.Errorf("ArcsOf(%v) is %v, %v", parts, got, ok)
		}
	}
	examples := []struct{ parts, arcs []int }{
		{[]int{1}, []int{0}},
		{[]int{2}, []int{1, 0}},
		{[]int{3}, []int{2, 1, 0}},
		{[]int{5}, []int{4, 3, 2, 1, 0}},
		{[]int{3, 1, 2}, []int{2, 1, 0, 3, 5, 4}},
		{[]int{20}, []int{19, 18, 17, 16, 15, 14, 13, 12, 11, 10, 9, 8, 7, 6, 5, 4, 3, 2, 1, 0}},
		{[]int{1, 18, 1}, []int{0, 18, 17, 16, 15, 14, 13, 12, 11, 10, 9, 8, 7, 6, 5, 4, 3, 2, 1, 19}},
	}
	for _, e := range examples {
		if got, ok := impl.ArcsOf(e.parts); !ok || !sameList(got, e.arcs) {
			t.Errorf("ArcsOf(%v) is %v, %v", e.parts, got, ok)
		}
	}
	for what, parts := range wildParts() {
		got, ok := impl.ArcsOf(parts)
		mustNotSucceed(t, "the arcs of what are no parts, "+what, ok, got)
	}
}

func checkStrands(t *testing.T, s impl.Seaweed) {
	t.Helper()
	wantPaths, wantCycles := strandsByWords(s)
	if got, ok := impl.PathsOf(s); !ok || !sameLists(got, wantPaths) {
		t.Fatalf("PathsOf(%v) is %v, %v", s, got, ok)
	}
	if got, ok := impl.CyclesOf(s); !ok || !sameLists(got, wantCycles) {
		t.Fatalf("CyclesOf(%v) is %v, %v", s, got, ok)
	}
	if paths, cycles, ok := impl.CountBoth(s); !ok || paths != len(wantPaths) || cycles != len(wantCycles) {
		t.Fatalf("CountBoth(%v) is %d, %d, %v", s, paths, cycles, ok)
	}
	if index, ok := impl.IndexOf(s); !ok || index != 2*len(wantCycles)+len(wantPaths)-1 {
		t.Fatalf("IndexOf(%v) is %d, %v", s, index, ok)
	}
}

func TestPromise7PathsAndCycles(t *testing.T) {
	for _, s := range seaweedsToTry() {
		checkStrands(t, s)
	}
	for _, s := range seaweedsByWords(7) {
		checkStrands(t, s)
	}
	examples := []struct {
		text          string
		paths, cycles [][]int
	}{
		{"1|1", [][]int{{0}}, nil},
		{"2|2", nil, [][]int{{0, 1}}},
		{"3|3", [][]int{{1}}, [][]int{{0, 2}}},
		{"2|1+1", [][]int{{0, 1}}, nil},
		{"1+1|1+1", [][]int{{0}, {1}}, nil},
		{"3|1+1+1", [][]int{{0, 2}, {1}}, nil},
		{"4|2+2", nil, [][]int{{0, 1, 2, 3}}},
		{"2+4+2|8", nil, [][]int{{0, 1, 6, 7}, {2, 5}, {3, 4}}},
		{"5|1+3+1", [][]int{{0, 4}, {2}}, [][]int{{1, 3}}},
		{"20|20", nil, [][]int{{0, 19}, {1, 18}, {2, 17}, {3, 16}, {4, 15}, {5, 14}, {6, 13}, {7, 12}, {8, 11}, {9, 10}}},
	}
	for _, e := range examples {
		s := mustParseSeaweed(t, e.text)
		if got, ok := impl.PathsOf(s); !ok || !sameLists(got, e.paths) {
			t.Errorf("the paths of %s are %v, %v", e.text, got, ok)
		}
		if got, ok := impl.CyclesOf(s); !ok || !sameLists(got, e.cycles) {
			t.Errorf("the cycles of %s are %v, %v", e.text, got, ok)
		}
	}
	for what, s := range wildSeaweeds() {
		paths, ok := impl.PathsOf(s)
		mustNotSucceed(t, "the paths of what is "+what, ok, paths)
		cycles, ok := impl.CyclesOf(s)
		mustNotSucceed(t, "the cycles of what is "+what, ok, cycles)
		p, c, ok := impl.CountBoth(s)
		mustNotSucceed(t, "the counts of what is "+what, ok, p, c)
		index, ok := impl.IndexOf(s)
		mustNotSucceed(t, "the index of what is "+what, ok, index)
	}
}

func checkStep(t *testing.T, s impl.Seaweed) {
	t.Helper()
	want, wantLetter := windStepByWords(s)
	got, letter, ok := impl.WindStep(s)
	if !ok || !sameResult(got, want) || letter != wantLetter {
		t.Fatalf("WindStep(%v) is %v, %s, %v and not %v, %s", s, got, letter, ok, want, wantLetter)
	}
}

// checkKept checks that a step keeps paths and cycles, but for those that it has to
// take away.
func checkKept(t *testing.T, s impl.Seaweed) {
	t.Helper()
	behind, letter, _ := impl.WindStep(s)
	paths, cycles, ok := impl.CountBoth(s)
	pathsBehind, cyclesBehind, okBehind := impl.CountBoth(behind)
	if letter == "C" {
		pathsBehind += s.Top[0] % 2
		cyclesBehind += s.Top[0] / 2
	}
	if !ok || !okBehind || paths != pathsBehind || cycles != cyclesBehind {
		t.Fatalf("the step %s of %v does not keep paths and cycles", letter, s)
	}
}

func TestPromise7Steps(t *testing.T) {
	for _, s := range seaweedsToTry() {
		if len(s.Top) > 0 {
			checkStep(t, s)
			checkKept(t, s)
		}
	}
	for what, s := range wildSeaweeds() {
		behind, letter, ok := impl.WindStep(s)
		mustNotSucceed(t, "a step of what is "+what, ok, behind, letter)
	}
}

// TestPromise7StepConditions has all first parts a and b, those at the bounds of
// each condition among them.
func TestPromise7StepConditions(t *testing.T) {
	for a := 1; a <= 20; a++ {
		for b := 1; b <= 20; b++ {
			for sum := max(a, b); sum <= 20; sum++ {
				s := impl.Seaweed{Top: []int{a}, Bottom: []int{b}}
				if a < sum {
					s.Top = append(s.Top, sum-a)
				}
				s.Bottom = append(s.Bottom, slices.Repeat([]int{1}, sum-b)...)
				checkStep(t, s)
				checkKept(t, s)
			}
		}
	}
	letters := map[[2]int]string{
		{1, 1}: "C", {1, 2}: "F", {1, 19}: "F", {9, 10}: "F", {10, 10}: "C", {20, 20}: "C", {11, 10}: "R",
		{2, 1}: "B", {3, 1}: "P", {3, 2}: "R", {4, 2}: "B", {5, 2}: "P", {19, 10}: "R", {20, 10}: "B", {19, 9}: "P", {18, 9}: "B", {17, 9}: "R", {20, 9}: "P", {20, 1}: "P", {1, 20}: "F", {20, 19}: "R", {19, 20}: "F",
	}
	for firsts, want := range letters {
		s := impl.Seaweed{Top: []int{firsts[0]}, Bottom: []int{firsts[1]}}
		s.Top = append(s.Top, slices.Repeat([]int{1}, 20-firsts[0])...)
		s.Bottom = append(s.Bottom, slices.Repeat([]int{1}, 20-firsts[1])...)
		if _, letter, ok := impl.WindStep(s); !ok || letter != want {
			t.Errorf("the step of first parts %v is %s, %v", firsts, letter, ok)
		}
	}
}

func TestPromise7Winding(t *testing.T) {
	for _, s := range seaweedsToTry() {
		all, want := windByWords(s)
		if word, ok := impl.WindWord(s); !ok || word != want {
			t.Fatalf("WindWord(%v) is %s, %v", s, word, ok)
		}
		var texts []string
		for _, behind := range all {
			texts = append(texts, seaweedText(behind))
		}
		if run, ok := impl.WindRun(s); !ok || !slices.Equal(run, texts) {
			t.Fatalf("WindRun(%v) is %v, %v", s, run, ok)
		}
	}
	for what, s := range wildSeaweeds() {
		word, ok := impl.WindWord(s)
		mustNotSucceed(t, "the word of what is "+what, ok, word)
		run, ok := impl.WindRun(s)
		mustNotSucceed(t, "the run of what is "+what, ok, run)
	}
}

// TestPromise7CountsByWinding counts what the steps C take away by the words, and
// paths and cycles by their points.
func TestPromise7CountsByWinding(t *testing.T) {
	for _, s := range append(seaweedsByWords(7), seaweedsToTry()...) {
		all, letters := windByWords(s)
		wantPaths, wantCycles := 0, 0
		for k := range letters {
			if letters[k] == 'C' {
				wantPaths += all[k].Top[0] % 2
				wantCycles += all[k].Top[0] / 2
			}
		}
		paths, cycles, ok := impl.CountByWinding(s)
		if !ok || paths != wantPaths || cycles != wantCycles {
			t.Fatalf("CountByWinding(%v) is %d, %d, %v", s, paths, cycles, ok)
		}
		foundPaths, foundCycles := strandsByWords(s)
		if paths != len(foundPaths) || cycles != len(foundCycles) {
			t.Fatalf("%v is wound down with %d paths and %d cycles", s, paths, cycles)
		}
	}
	for what, s := range wildSeaweeds() {
		paths, cycles, ok := impl.CountByWinding(s)
		mustNotSucceed(t, "the counts by winding of what is "+what, ok, paths, cycles)
	}
}

func TestPromise7FlipAndMirror(t *testing.T) {
	for _, s := range seaweedsToTry() {
		flipped, ok := impl.FlipSeaweed(s)
		if !ok || !sameResult(flipped, impl.Seaweed{Top: s.Bottom, Bottom: s.Top}) {
			t.Fatalf("FlipSeaweed(%v) is %v, %v", s, flipped, ok)
		}
		want := impl.Seaweed{Top: slices.Clone(s.Top), Bottom: slices.Clone(s.Bottom)}
		slices.Reverse(want.Top)
		slices.Reverse(want.Bottom)
		mirrored, ok := impl.MirrorSeaweed(s)
		if !ok || !sameResult(mirrored, want) {
			t.Fatalf("MirrorSeaweed(%v) is %v, %v", s, mirrored, ok)
		}
		for _, moved := range []impl.Seaweed{flipped, mirrored} {
			paths, cycles, _ := impl.CountBoth(s)
			if p, c, ok := impl.CountByWinding(moved); !ok || p != paths || c != cycles {
				t.Fatalf("%v has %d and %d, but moved %d and %d, %v", s, paths, cycles, p, c, ok)
			}
		}
	}
	for what, s := range wildSeaweeds() {
		flipped, ok := impl.FlipSeaweed(s)
		mustNotSucceed(t, "what is "+what+" flipped", ok, flipped)
		mirrored, ok := impl.MirrorSeaweed(s)
		mustNotSucceed(t, "what is "+what+" mirrored", ok, mirrored)
	}
}

func TestPromise7Joins(t *testing.T) {
	all := append(seaweedsUpTo(3), mustParseSeaweed(t, "7+1|2+6"), mustParseSeaweed(t, "10|5+5"), mustParseSeaweed(t, "11|11"), mustParseSeaweed(t, "9+8|17"), mustParseSeaweed(t, "18|9+9"), mustParseSeaweed(t, "19|19"), mustParseSeaweed(t, "20|1+19"))
	met, passed := 0, 0
	for _, a := range all {
		for _, b := range all {
			got, ok := impl.JoinSeaweeds(a, b)
			sum := sumOf(a.Top) + sumOf(b.Top)
			if sum > 20 {
				mustNotSucceed(t, "a join that is too great", ok, got)
			} else if !ok || !sameResult(got, impl.Seaweed{Top: joinedParts(a.Top, b.Top), Bottom: joinedParts(a.Bottom, b.Bottom)}) {
				t.Errorf("JoinSeaweeds(%v, %v) is %v, %v", a, b, got, ok)
			}
			if ok && indexByWords(got) != indexByWords(a)+indexByWords(b)+1 {
				t.Errorf("JoinSeaweeds(%v, %v) has other paths and cycles", a, b)
			}
			switch sum {
			case 20:
				met++
			case 21:
				passed++
			}
		}
	}
	if met == 0 || passed == 0 {
		t.Errorf("the test meets the limit %d times and passes it by one %d times", met, passed)
	}
	for what, s := range wildSeaweeds() {
		for _, fine := range []impl.Seaweed{{}, {Top: []int{1}, Bottom: []int{1}}, {Top: []int{20}, Bottom: []int{20}}} {
			got, ok := impl.JoinSeaweeds(s, fine)
			mustNotSucceed(t, "a join behind what is "+what, ok, got)
			got, ok = impl.JoinSeaweeds(fine, s)
			mustNotSucceed(t, "a join of what is "+what, ok, got)
		}
		got, ok := impl.JoinSeaweeds(s, s)
		mustNotSucceed(t, "a join of twice what is "+what, ok, got)
	}
	// These would be a seaweed if they were joined first.
	got, ok := impl.JoinSeaweeds(impl.Seaweed{Top: []int{1}}, impl.Seaweed{Bottom: []int{1}})
	mustNotSucceed(t, "a join of one above and one below", ok, got)
}

// partNumbers are the wild numbers and all that may be parts.
func partNumbers() []int {
	numbers := []int{math.MinInt, math.MinInt + 1, -20, math.MaxInt - 19, math.MaxInt - 1, math.MaxInt, 1 << 32, 1<<32 + 1, 1 << 62, 1 << 63 / 3}
	for i := -2; i <= 23; i++ {
		numbers = append(numbers, i)
	}
	return numbers
}

func TestPromise7IndexOfTwo(t *testing.T) {
	for _, a := range partNumbers() {
		for _, b := range partNumbers() {
			got, ok := impl.IndexOfTwo(a, b)
			s := impl.Seaweed{Top: []int{a, b}, Bottom: []int{a + b}}
			if !isSeaweedByWords(s) {
				mustNotSucceed(t, "the index of two that are no parts", ok, got)
				continue
			}
			if !ok || got != divisorByWords(a, b)-1 || got != indexByWords(s) {
				t.Errorf("IndexOfTwo(%d, %d) is %d, %v", a, b, got, ok)
			}
			if index, ok := impl.IndexOf(s); !ok || index != got {
				t.Errorf("IndexOf(%v) is %d, %v", s, index, ok)
			}
		}
	}
	for _, e := range [][3]int{{2, 1, 0}, {1, 1, 0}, {1, 19, 0}, {9, 11, 0}, {2, 4, 1}, {3, 6, 2}, {6, 3, 2}, {6, 9, 2}, {12, 8, 3}, {5, 15, 4}, {10, 10, 9}} {
		if got, ok := impl.IndexOfTwo(e[0], e[1]); !ok || got != e[2] {
			t.Errorf("IndexOfTwo(%d, %d) is %d, %v", e[0], e[1], got, ok)
		}
	}
	for _, e := range [][2]int{{1, 20}, {20, 1}, {10, 11}, {0, 3}, {3, 0}, {0, 0}, {-3, 6}, {6, -3}, {21, -1}} {
		got, ok := impl.IndexOfTwo(e[0], e[1])
		mustNotSucceed(t, "the index of two that are no parts", ok, got)
	}
}

func TestPromise7IndexOfThree(t *testing.T) {
	for _, a := range partNumbers() {
		for _, b := range partNumbers() {
			for _, c := range partNumbers() {
				got, ok := impl.IndexOfThree(a, b, c)
				s := impl.Seaweed{Top: []int{a, b, c}, Bottom: []int{a + b + c}}
				if !isSeaweedByWords(s) {
					mustNotSucceed(t, "the index of three that are no parts", ok, got)
					continue
				}
				if !ok || got != divisorByWords(a+b, b+c)-1 || got != indexByWords(s) {
					t.Errorf("IndexOfThree(%d, %d, %d) is %d, %v", a, b, c, got, ok)
				}
				if index, ok := impl.IndexOf(s); !ok || index != got {
					t.Errorf("IndexOf(%v) is %d, %v", s, index, ok)
				}
			}
		}
	}
	for _, e := range [][4]int{{2, 4, 2, 5}, {1, 1, 1, 1}, {1, 2, 1, 2}, {1, 1, 2, 0}, {1, 18, 1, 18}, {18, 1, 1, 0}, {9, 2, 9, 10}, {3, 3, 6, 2}} {
		if got, ok := impl.IndexOfThree(e[0], e[1], e[2]); !ok || got != e[3] {
			t.Errorf("IndexOfThree(%d, %d, %d) is %d, %v", e[0], e[1], e[2], got, ok)
		}
	}
	for _, e := range [][3]int{{1, 1, 19}, {7, 7, 7}, {19, 1, 1}, {0, 1, 1}, {1, 0, 1}, {1, 1, 0}, {-1, 2, 3}, {2, -1, 3}, {2, 3, -1}, {20, 1, -1}} {
		got, ok := impl.IndexOfThree(e[0], e[1], e[2])
		mustNotSucceed(t, "the index of three that are no parts", ok, got)
	}
}

func TestPromise7CountByIndex(t *testing.T) {
	for n := 1; n <= 7; n++ {
		want := make([]int, 2*n+1)
		for _, s := range seaweedsByWords(n) {
			want[indexByWords(s)]++
		}
		got, ok := impl.CountByIndex(n)
		if !ok || !sameList(got, want) {
			t.Errorf("CountByIndex(%d) is %v, %v", n, got, ok)
		}
		if sumOf(got) != 1<<(2*n-2) {
			t.Errorf("CountByIndex(%d) is %v", n, got)
		}
	}
	for n, want := range map[int][]int{1: {1, 0, 0}, 2: {2, 2, 0, 0, 0}} {
		if got, ok := impl.CountByIndex(n); !ok || !sameList(got, want) {
			t.Errorf("CountByIndex(%d) is %v, %v", n, got, ok)
		}
	}
	for _, n := range []int{math.MinInt, -7, -1, 0, 8, 9, 20, 21, 100, 1 << 40, math.MaxInt} {
		got, ok := impl.CountByIndex(n)
		mustNotSucceed(t, "CountByIndex", ok, got)
	}
}

func TestPromise7Texts(t *testing.T) {
	for _, s := range seaweedsToTry() {
		text := seaweedText(s)
		if got, ok := impl.SeaweedText(s); !ok || got != text {
			t.Errorf("SeaweedText(%v) is %q, %v", s, got, ok)
		}
		if got, ok := impl.ParseSeaweed(text); !ok || !sameResult(got, s) {
			t.Errorf("ParseSeaweed(%q) is %v, %v", text, got, ok)
		}
	}
	if text, ok := impl.SeaweedText(impl.Seaweed{Top: []int{10, 1, 9}, Bottom: []int{20}}); !ok || text != "10+1+9|20" {
		t.Error("the text of 10 1 9 over 20", text, ok)
	}
	for what, s := range wildSeaweeds() {
		text, ok := impl.SeaweedText(s)
		mustNotSucceed(t, "the text of what is "+what, ok, text)
	}
}

func TestPromise7NoTexts(t *testing.T) {
	signs := "-+|0123"
	wild := []string{""}
	for from := 0; from < len(wild); from++ {
		if len(wild[from]) < 5 {
			for i := range len(signs) {
				wild = append(wild, wild[from]+signs[i:i+1])
			}
		}
	}
	found := 0
	for _, text := range wild {
		want, isText := seaweedOfText(text)
		if isText {
			found++
		}
		if got, ok := impl.ParseSeaweed(text); ok != isText || !sameResult(got, want) {
			t.Errorf("ParseSeaweed(%q) is %v, %v", text, got, ok)
		}
	}
	if found != 15 {
		t.Errorf("the test has %d texts of seaweeds", found)
	}
	for _, text := range noSeaweedTexts() {
		got, ok := impl.ParseSeaweed(text)
		mustNotSucceed(t, "the seaweed of "+text, ok, got)
	}
}

// noSeaweedTexts are texts that look like those of seaweeds.
func noSeaweedTexts() []string {
	ones := strings.Repeat("1+", 19) + "1"
	return []string{
		"", "|", "-", "--", "-|", "|-", "-|--", "--|-", "-|-|-", "-|-|", "-||-", "1", "1|", "|1", "1||1", "1|1|", "|1|1", "1|1|1", "1|-", "-|1",
		"1 |1", "1| 1", " 1|1", "1|1 ", "1|1\n", "\n1|1", "1|1\x00", "\t1|1", "1 + 1|2", "1+ 1|2",
		"+1|1", "1|+1", "1+|1", "1|1+", "1++1|2", "2|1++1", "++1|1", "-1|-1", "--1|1", "1+-|1", "-+1|1", "3+-1|2", "2|-1+3",
		"0|0", "0|-", "-|0", "1+0|1", "0+1|1", "1|1+0", "00|00", "01|1", "1|01", "1|001", "1+01|2", "2|1+01", "010|10",
		"2|1", "2+1|4", "1+1|3", "20|19", "21|21", "20+1|21", ones + "+1|21", "21|" + ones + "+1",
		"1_0|10", "0x1|1", "1e0|1", "1.0|1", "1,1|2", "2/1+1", "a|a", "(1|1)", "１|1", "１|１", "٣|3", "\xff|\xff", "²|2",
		"9223372036854775807|9223372036854775807", "9223372036854775808|9223372036854775808", "18446744073709551617|1", "18446744073709551616|-", "4294967297|1", "-9223372036854775808|-9223372036854775808",
		"9223372036854775807+9223372036854775807+3|1",
	}
}
