package tests

import (
	"slices"
	"strings"
	"testing"

	"loop.example/g01126/impl"
)

// answer is the result of DeskLine.
type answer struct {
	Behind impl.Meander
	Reply  string
}

func deskCall(m impl.Meander, line string) (any, bool) {
	behind, reply, ok := impl.DeskLine(m, line)
	return answer{behind, reply}, ok
}

// scriptCalls returns the functions of chapter 10 that take a script.
func scriptCalls() map[string]func(script string) (any, bool) {
	return map[string]func(script string) (any, bool){
		"RunScript":   func(script string) (any, bool) { return pack(impl.RunScript(script)) },
		"DeskAfter":   func(script string) (any, bool) { return pack(impl.DeskAfter(script)) },
		"FailedLines": func(script string) (any, bool) { return pack(impl.FailedLines(script)) },
	}
}

// linesToGuard have all names, with a reply, with a function that fails and as no
// line of the table.
func linesToGuard() []string {
	return []string{
		"", " ", "fly", "show", "show ", "count", "steps", "pieces", "flip", "mirror", "cut", "cut 0",
		"take ()|()", "take |", "take ()", "top ", "top ()", "top ()()", "top ()(())", "top )(", "bottom ", "bottom ()", "bottom (())", "bottom ((()))", "bottom 0",
		"turn 0", "turn 1", "turn 100", "turn 101", "turn -1", "put 0 |", "put 0 ()|()", "put 2 (())|()()", "put 999999 ()|()", "put 0 ()",
		"way 0", "way 3", "way 12", "way -1", "meanders 0", "meanders 4", "meanders 7", "stamps 0", "stamps 5", "stamps 9", "semi 0", "semi 021", "semi 10", "semi 2",
		"index 2+1|3", "index -|-", "index 1|2", "wind 2+1|3", "wind -|-", "wind 1|2",
		"show\n", "\n", strings.Repeat("a", 3000), strings.Repeat("a", 3001),
	}
}

func TestPromise11LinesChangeNothing(t *testing.T) {
	for _, m := range pairsToGuard() {
		g := newPairGuard(m)
		for _, line := range linesToGuard() {
			checkCall(t, "the line "+line, func() (any, bool) { return deskCall(g.pair(), line) })
			if !g.isUnchanged() {
				t.Fatalf("the line %q changes its argument %v", line, m)
			}
		}
	}
}

// TestPromise11LinesOfOneList has both systems of a pair in the same memory.
func TestPromise11LinesOfOneList(t *testing.T) {
	for _, p := range append(systemsUpTo(4), systemsByWords(6)[77], []int{2, 3, 0, 1}, []int{0}) {
		g := newGuard(p)
		for _, line := range linesToGuard() {
			checkCall(t, "the line "+line, func() (any, bool) {
				return deskCall(impl.Meander{Top: g.list, Bottom: g.list}, line)
			})
			if !g.isUnchanged() {
				t.Fatalf("the line %q changes %v", line, p)
			}
		}
	}
}

// TestPromise11LineResultsAreNew has lines behind which the pair is the same, or has
// one of the same systems.
func TestPromise11LineResultsAreNew(t *testing.T) {
	for _, text := range []string{"()|()", "(())|()()", "()(())|()(())", "()()()()()()|(((((())))))"} {
		for _, line := range append(linesToGuard(), "top "+strings.Repeat("()", len(text)/4), "bottom "+strings.Repeat("()", len(text)/4)) {
			m := pairOfText(text)
			kept := copyResult(m)
			behind, _, _ := impl.DeskLine(m, line)
			if !spoilResult(behind) || !sameResult(m, kept) {
				t.Fatalf("the pair behind the line %q shares memory with %s or with itself", line, text)
			}
		}
	}
}

func TestPromise11FirstDeskIsNew(t *testing.T) {
	checkCall(t, "FirstDesk", func() (any, bool) { return impl.FirstDesk(), true })
	m := impl.FirstDesk()
	spoilResult(m)
	if replies, ok := impl.RunScript("show\n"); !ok || !slices.Equal(replies, []string{"(())|()()"}) {
		t.Error("a script begins with", replies, ok)
	}
	after, _ := impl.DeskAfter("")
	spoilResult(after)
	if m, ok := impl.DeskAfter(""); !ok || pairTextByWords(m) != "(())|()()" {
		t.Error("the pair behind no lines", m, ok)
	}
}

func TestPromise11Scripts(t *testing.T) {
	scripts := []string{"", "\n", "show", "\x00\n", "\xff\n", strings.Repeat("\n", 50), strings.Repeat("\n", 51), strings.Repeat("a", 2999) + "\n", strings.Repeat("a", 3000) + "\n", strings.Repeat("show\n", 1<<18), strings.Repeat(" ", 1<<20)}
	for seed := range 200 {
		scripts = append(scripts, scatteredScript(20000+seed))
	}
	for _, script := range scripts {
		for name, call := range scriptCalls() {
			checkCall(t, name, func() (any, bool) { return call(script) })
		}
	}
}

// TestPromise11AnyTexts has scripts of any pieces, most of which make no lines.
func TestPromise11AnyTexts(t *testing.T) {
	pieces := []string{"\n", "\n", "\n", " ", " ", " ", " ", "|", "|", "()", "(", ")", "0", "1", "2", "9", "+", "-", "\x00", "\r", "\t", "\xff", "\u00a0", "999999", "1000000", "()|()", "(())|()()", "2+1|3"}
	for name := range tableRows() {
		pieces = append(pieces, name)
	}
	slices.Sort(pieces)
	const limit = 1 << 20
	for seed := range 20000 {
		next := scatter(seed, limit)
		script := ""
		for range 1 + (next()+limit)%40 {
			script += pieces[(next()+limit)%len(pieces)]
		}
		checkScript(t, script)
		if seed%2 == 0 {
			checkScript(t, script+"\n")
		}
	}
}

// TestPromise11AnyBytes has each byte behind, in front of and in the words of a line.
func TestPromise11AnyBytes(t *testing.T) {
	m := pairOfText("(())|()()")
	for b := range 256 {
		sign := string([]byte{byte(b)})
		for _, line := range []string{sign, "show" + sign, sign + "show", "turn" + sign + "1", "turn " + sign, "turn 1" + sign, "way 1" + sign + "2", "take ()" + sign + "()", "take ()|()" + sign, "top " + sign, "top ()" + sign, "bottom " + sign + ")()", "semi " + sign, "semi 0" + sign, "index 1" + sign + "1", "wind 1" + sign + "1|2", "put 1" + sign + "()|()"} {
			if sign == "\n" {
				behind, reply, ok := impl.DeskLine(m, line)
				mustNotSucceed(t, "a line with a newline", ok, behind, reply)
				continue
			}
			checkLine(t, m, line)
		}
	}
}
