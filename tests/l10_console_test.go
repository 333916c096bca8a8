package tests

import (
	"fmt"
	"slices"
	"strings"
	"testing"

	"loop.example/g01126/impl"
)

func checkLine(t *testing.T, m impl.Meander, line string) {
	t.Helper()
	text, want := lineByWords(pairTextByWords(m), line)
	behind, reply, ok := impl.DeskLine(m, line)
	if !ok || reply != want || !sameResult(behind, pairOfText(text)) {
		t.Fatalf("the line %q on %s: the pair %s, the reply %q, %v, but it should be %s and %q", line, pairTextByWords(m), pairTextByWords(behind), reply, ok, text, want)
	}
}

func checkScript(t *testing.T, script string) {
	t.Helper()
	want, isScript := scriptByWords(script)
	replies, repliesOk := impl.RunScript(script)
	after, afterOk := impl.DeskAfter(script)
	failed, failedOk := impl.FailedLines(script)
	if !isScript {
		mustNotSucceed(t, "the replies to no script", repliesOk, replies)
		mustNotSucceed(t, "the pair behind no script", afterOk, after)
		mustNotSucceed(t, "the failed lines of no script", failedOk, failed)
		return
	}
	if !repliesOk || !slices.Equal(replies, want.Replies) {
		t.Fatalf("the replies to %q are %q, %v, but should be %q", script, replies, repliesOk, want.Replies)
	}
	if !afterOk || !sameResult(after, pairOfText(want.After)) {
		t.Fatalf("the pair behind %q is %s, %v, but should be %s", script, pairTextByWords(after), afterOk, want.After)
	}
	if !failedOk || !sameList(failed, want.Failed) {
		t.Fatalf("the failed lines of %q are %v, %v, but should be %v", script, failed, failedOk, want.Failed)
	}
}

func TestPromise10Example(t *testing.T) {
	lines := []string{"way 0", "steps", "put 1 ()|()", "count", "cut", "wind 2+1|3", "fly"}
	want := []string{"0,3,2,1", "0,1,2,3", "(()())|(())()", "2", "(())|()()", "FRBC", "what"}
	pairs := []string{"(())|()()", "(())|()()", "(()())|(())()", "(()())|(())()", "(())|()()", "(())|()()", "(())|()()"}
	script := strings.Join(lines, "\n") + "\n"
	if replies, ok := impl.RunScript(script); !ok || !slices.Equal(replies, want) {
		t.Errorf("the replies are %q, %v", replies, ok)
	}
	if m, ok := impl.DeskAfter(script); !ok || pairTextByWords(m) != "(())|()()" {
		t.Error("the pair behind", m, ok)
	}
	if failed, ok := impl.FailedLines(script); !ok || !sameList(failed, []int{7}) {
		t.Error("the failed lines", failed, ok)
	}
	m := impl.FirstDesk()
	for k, line := range lines {
		behind, reply, ok := impl.DeskLine(m, line)
		if !ok || reply != want[k] || pairTextByWords(behind) != pairs[k] {
			t.Errorf("%s: the pair %v, the reply %q, %v", line, behind, reply, ok)
		}
		m = behind
	}
}

func TestPromise10FirstDesk(t *testing.T) {
	want := impl.Meander{Top: []int{3, 2, 1, 0}, Bottom: []int{1, 0, 3, 2}}
	if m := impl.FirstDesk(); !sameResult(m, want) {
		t.Error("the first pair is", m)
	}
	if text, ok := impl.MeanderText(impl.FirstDesk()); text != "(())|()()" || !ok {
		t.Error("the text of the first pair is", text, ok)
	}
}

// TestPromise10Effects has lines that change a pair, or whose functions fail.
func TestPromise10Effects(t *testing.T) {
	const six, rainbow = "()()()()()()", "(((((())))))"
	for _, e := range []struct{ text, line, reply string }{
		{"(())|()()", "take ()|()", "()|()"},
		{"(())|()()", "take |", "|"},
		{"|", "take ()(())|(())()", "()(())|(())()"},
		{"()|()", "take " + six + "|" + rainbow, six + "|" + rainbow},
		{"()|()", "take ()|()", "()|()"},
		{"(())|()()", "top ()()", "()()|()()"},
		{"(())|()()", "top (())", "(())|()()"},
		{"(())|()()", "top ()", "no"},
		{"(())|()()", "top ()()()", "no"},
		{"(())|()()", "top ", "no"},
		{"|", "top ", "|"},
		{"|", "top ()", "no"},
		{six + "|" + six, "top " + rainbow, rainbow + "|" + six},
		{six + "|" + six, "top ((((()))))", "no"},
		{"()()()()()|()()()()()", "top " + rainbow, "no"},
		{"(())|()()", "bottom (())", "(())|(())"},
		{"(())|()()", "bottom ()()", "(())|()()"},
		{"(())|()()", "bottom ()", "no"},
		{"(())|()()", "bottom ()()()", "no"},
		{"(())|()()", "bottom ", "no"},
		{"|", "bottom ", "|"},
		{"|", "bottom ()", "no"},
		{six + "|" + six, "bottom " + rainbow, six + "|" + rainbow},
		{"(())|()()", "flip", "()()|(())"},
		{"(())()|()()()", "flip", "()()()|(())()"},
		{"|", "flip", "|"},
		{"(())()|()()()", "mirror", "()(())|()()()"},
		{"((())())()|(()()())()", "mirror", "()(()(()))|()(()()())"},
		{"|", "mirror", "|"},
		{"(())|()()", "turn 0", "(())|()()"},
		{"(())|()()", "turn 1", "()()|(())"},
		{"(())()|()()()", "turn 1", "((()))|(()())"},
		{"(())()|()()()", "turn 2", "()(())|()()()"},
		{"(())()|()()()", "turn 6", "(())()|()()()"},
		{"(())()|()()()", "turn 97", "((()))|(()())"},
		{"(())()|()()()", "turn 100", "((()))|()()()"},
		{"(())|()()", "turn 100", "(())|()()"},
		{"(())|()()", "turn 101", "no"},
		{"(())|()()", "turn 999999", "no"},
		{"|", "turn 0", "|"},
		{"|", "turn 100", "|"},
		{"|", "turn 101", "no"},
		{"(())|(())", "cut", "()|()"},
		{"()()|()()", "cut", "()|()"},
		{"()(())()|()(())()", "cut", "(())()|(())()"},
		{"(()())|(())()", "cut", "(())|()()"},
		{"(())|()()", "cut", "no"},
		{"()((()))|((()))()", "cut", "no"},
		{"()|()", "cut", "no"},
		{"|", "cut", "no"},
		{"(())|()()", "put 0 ()|()", "()(())|()()()"},
		{"(())|()()", "put 1 ()|()", "(()())|(())()"},
		{"(())|()()", "put 2 (())|()()", "(((())))|()()()()"},
		{"(())|()()", "put 4 ()|()", "(())()|()()()"},
		{"(())|()()", "put 5 ()|()", "no"},
		{"(())|()()", "put 999999 ()|()", "no"},
		{"(())|()()", "put 2 |", "(())|()()"},
		{"(())|()()", "put 5 |", "no"},
		{"|", "put 0 (())|()()", "(())|()()"},
		{"|", "put 0 |", "|"},
		{"|", "put 1 ()|()", "no"},
		{"()()()()()|((((()))))", "put 5 ()|()", "()()(())()()|(((((())))))"},
		{"()()()()()|((((()))))", "put 0 (())|()()", "no"},
		{six + "|" + rainbow, "put 6 |", six + "|" + rainbow},
		{six + "|" + rainbow, "put 6 ()|()", "no"},
	} {
		behind, reply, ok := impl.DeskLine(pairOfText(e.text), e.line)
		want := e.reply
		if want == "no" {
			want = e.text
		}
		if !ok || reply != e.reply || pairTextByWords(behind) != want {
			t.Errorf("the line %q on %s: the pair %s, the reply %q, %v", e.line, e.text, pairTextByWords(behind), reply, ok)
		}
	}
}

// TestPromise10Questions has lines that change nothing.
func TestPromise10Questions(t *testing.T) {
	for _, e := range []struct{ text, line, reply string }{
		{"(())|()()", "show", "(())|()()"},
		{"|", "show", "|"},
		{"(())|()()", "count", "1"},
		{"()()|()()", "count", "2"},
		{"()()()()()()|()()()()()()", "count", "6"},
		{"|", "count", "0"},
		{"(())|()()", "way 0", "0,3,2,1"},
		{"(())|()()", "way 1", "1,2,3,0"},
		{"(())|()()", "way 3", "3,0,1,2"},
		{"(())|()()", "way 4", "no"},
		{"(())|()()", "way 999999", "no"},
		{"()()|()()", "way 2", "2,3"},
		{"()()()()()()|(((((())))))", "way 11", "11,10,1,0"},
		{"|", "way 0", "no"},
		{"(())|()()", "steps", "0,1,2,3"},
		{"()()|(())", "steps", "0,2,1,3"},
		{"|", "steps", "-"},
		{"(())|()()", "pieces", "(())|()()"},
		{"(()())|(())()", "pieces", "(())|()() ()|()"},
		{"()()|()()", "pieces", "()|() ()|()"},
		{"()(())|()()()", "pieces", "(())|()() ()|()"},
		{"|", "pieces", "no"},
		{"|", "meanders 0", "no"},
		{"|", "meanders 1", "1"},
		{"(())|()()", "meanders 4", "42"},
		{"|", "meanders 6", "1828"},
		{"|", "meanders 7", "no"},
		{"|", "meanders 999999", "no"},
		{"|", "stamps 0", "no"},
		{"|", "stamps 1", "1"},
		{"(())|()()", "stamps 4", "16"},
		{"|", "stamps 8", "1392"},
		{"|", "stamps 9", "no"},
		{"|", "stamps 999999", "no"},
		{"|", "semi 0", "()"},
		{"(())|()()", "semi 01", "()()"},
		{"|", "semi 0132", "()((()))"},
		{"|", "semi 10", "no"},
		{"|", "semi 0213", "no"},
		{"|", "semi 0123456", "no"},
		{"|", "semi 01234567", "no"},
		{"|", "index 2+1|3", "0"},
		{"|", "index 4|4", "3"},
		{"(())|()()", "index 20|20", "19"},
		{"|", "index -|-", "-1"},
		{"|", "wind 2+1|3", "FRBC"},
		{"|", "wind 1|1", "C"},
		{"(())|()()", "wind 7|2+3+2", "PCC"},
		{"|", "wind -|-", "-"},
	} {
		behind, reply, ok := impl.DeskLine(pairOfText(e.text), e.line)
		if !ok || reply != e.reply || pairTextByWords(behind) != e.text {
			t.Errorf("the line %q on %s: the pair %s, the reply %q, %v", e.line, e.text, pairTextByWords(behind), reply, ok)
		}
	}
}

// TestPromise10What has lines that are none of the table's, and change nothing.
func TestPromise10What(t *testing.T) {
	lines := []string{
		"", " ", "  ", "   ", "fly", "what", "no", "-", "0", "|", "()|()",
		"Show", "SHOW", "shows", "sho", "show\t", "\tshow", "show\r", "\x00", "show\x00", "\xff\xfe", "sh\u00f6w",
		" show", "show ", " show ", "show show", "show 0", "show  ", "count 0", "count ", "steps ", "steps -", "pieces 1", "pieces ", "flip ", "flip 1", "mirror ", "mirror |", "cut ", "cut 0 1", "cut 0",
		"take", "take ", "take  |", "take | ", "take ()|() ", "take  ()|()", " take ()|()", "take ()|() ()|()", "take ()", "take ()|", "take |()", "take ()|()()", "take (|(", "take )(|()", "take ()|)(", "take ()||()", "take ()()()()()()()|()()()()()()()", "take 0|0", "take\t()|()", "take ()\u00a0|()",
		"top", "top  ", "top  ()", "top () ", "top ()()|", "top )(", "top (", "top ()()()()()()()", "top ((((((()))))))", "top 0", "top (())|()()", "top ()() ()()",
		"bottom", "bottom  ", "bottom  ()", "bottom () ", "bottom |()()", "bottom )(", "bottom )", "bottom ()()()()()()()", "bottom ((((((()))))))", "bottom ()() ()()",
		"turn", "turn ", "turn  1", "turn 1 ", "turn 1 2", "turn 1000000", "turn 01", "turn 00", "turn +1", "turn -1", "turn -0", "turn 1.0", "turn one", "turn 18446744073709551617", "turn 4294967297", "turn 0x1", "turn 1_0",
		"put", "put ", "put 1", "put 1 ", "put ()|()", "put ()|() 1", "put 1  ()|()", "put  1 ()|()", "put 1 ()|() ", "put 1 ()", "put 01 ()|()", "put -1 ()|()", "put 1000000 ()|()", "put 1 2 ()|()", "put 1 ()|() ()|()", "put 1 ()|()()", "put  ()|()", "put 999999 ()", "put 1000000 ()()()()()()()|()",
		"way", "way ", "way 0 ", "way  0", "way 0 1", "way 00", "way +0", "way -1", "way 1000000", "way a",
		"meanders", "meanders ", "meanders 1 ", "meanders 01", "meanders -1", "meanders +1", "meanders 1000000", "meanders 1 2",
		"stamps", "stamps ", "stamps 1 ", "stamps 01", "stamps -1", "stamps +1", "stamps 1000000", "stamps 1 2",
		"semi", "semi ", "semi 0 ", "semi  0", "semi 0 1", "semi 1", "semi 00", "semi 02", "semi 012345678", "semi 8", "semi -", "semi ()", "semi 0,1",
		"index", "index ", "index |", "index -", "index 1|2", "index 21|21", "index 0|0", "index 01|1", "index 1|1 ", "index 1|1 1|1", "index  1|1", "index -1|-1", "index 1|1|1", "index +1|1", "index 1+|1",
		"wind", "wind ", "wind |", "wind -", "wind 1|2", "wind 21|21", "wind 0|0", "wind 01|1", "wind 1|1 ", "wind 1|1 1|1", "wind  1|1", "wind -1|-1", "wind 1|1|1", "wind 1 + 1|2",
	}
	for _, text := range []string{"(())|()()", "|", "()()()|((()))"} {
		for _, line := range lines {
			behind, reply, ok := impl.DeskLine(pairOfText(text), line)
			if !ok || reply != "what" || pairTextByWords(behind) != text {
				t.Errorf("the line %q on %s: the pair %s, the reply %q, %v", line, text, pairTextByWords(behind), reply, ok)
			}
		}
	}
}

// TestPromise10Words has each name with all words of its kinds, and of others.
func TestPromise10Words(t *testing.T) {
	desks := []impl.Meander{{}, pairOfText("()|()"), pairOfText("(())|()()"), pairOfText("(()())()|()()()()"), pairOfText("(((((())))))|()()()()()()")}
	for name, row := range tableRows() {
		for _, kind := range "NMPWF" {
			for _, word := range wordsOf(kind) {
				line := name + " " + word
				if name == "put" {
					line = "put 1 " + word
				}
				for _, m := range desks {
					checkLine(t, m, line)
					if row.kinds == "" || strings.ContainsRune(row.kinds, kind) {
						checkLine(t, m, line+" ")
						checkLine(t, m, name+"  "+word)
						checkLine(t, m, " "+line)
						checkLine(t, m, line+" "+word)
						checkLine(t, m, word)
					}
				}
			}
		}
		for _, m := range desks {
			for _, line := range []string{name, name + " ", name + "  ", " " + name, name + name, strings.ToUpper(name), name[1:], name[:len(name)-1], name + "\t", name + "\x00"} {
				checkLine(t, m, line)
			}
		}
	}
	for _, at := range numberWords() {
		for _, m := range desks {
			checkLine(t, m, "put "+at+" ()|()")
			checkLine(t, m, "put "+at+" ()|")
		}
	}
}

// TestPromise10Pairs has all pairs of few arches, and many of more.
func TestPromise10Pairs(t *testing.T) {
	pairs := append(pairsUpTo(3), pairsOfAllSizes()...)
	for _, m := range pairs {
		text := pairTextByWords(m)
		for _, line := range []string{"show", "count", "steps", "pieces", "flip", "mirror", "cut", "top ", "bottom ", "top ()()", "bottom (()())", "top " + textByWords(m.Bottom), "bottom " + textByWords(m.Top), "take " + text, "take |", "put 1 " + text} {
			checkLine(t, m, line)
		}
		for i := range len(m.Top) + 2 {
			checkLine(t, m, fmt.Sprint("way ", i))
			checkLine(t, m, fmt.Sprint("turn ", i))
			checkLine(t, m, fmt.Sprint("put ", i, " ()|()"))
			checkLine(t, m, fmt.Sprint("put ", i, " (())|()()"))
			checkLine(t, m, fmt.Sprint("put ", i, " |"))
		}
	}
}

// changeCalls has the functions that the lines with an effect name.
func changeCalls(m, b impl.Meander, n int) map[string]func() (impl.Meander, bool) {
	text := pairTextByWords(b)
	return map[string]func() (impl.Meander, bool){
		"take " + text:              func() (impl.Meander, bool) { return impl.ParseMeander(text) },
		"flip":                      func() (impl.Meander, bool) { return impl.FlipMeander(m) },
		"mirror":                    func() (impl.Meander, bool) { return impl.MirrorMeander(m) },
		fmt.Sprint("turn ", n):      func() (impl.Meander, bool) { return impl.TurnMeander(m, n) },
		"put 3 " + text:             func() (impl.Meander, bool) { return impl.InsertPair(m, 3, b) },
		fmt.Sprint("put ", n, " |"): func() (impl.Meander, bool) { return impl.InsertPair(m, n, impl.Meander{}) },
		"cut": func() (impl.Meander, bool) {
			i, j, ok := impl.ShortestClosed(m)
			if !ok {
				return impl.Meander{}, false
			}
			return impl.OutsideOf(m, i, j)
		},
	}
}

// numberReplyCalls and listReplyCalls have the functions that the other lines name.
func numberReplyCalls(m impl.Meander, s impl.Seaweed, n int) map[string]func() (int, bool) {
	return map[string]func() (int, bool){
		"count":                    func() (int, bool) { return impl.ComponentsOf(m) },
		fmt.Sprint("meanders ", n): func() (int, bool) { return impl.MeandersByStates(n) },
		fmt.Sprint("stamps ", n):   func() (int, bool) { return impl.CountFoldings(n) },
		"index " + seaweedText(s):  func() (int, bool) { return impl.IndexOf(s) },
	}
}

func listReplyCalls(m impl.Meander, n int) map[string]func() ([]int, bool) {
	return map[string]func() ([]int, bool){
		fmt.Sprint("way ", n): func() ([]int, bool) { return impl.WayFrom(m, n) },
		"steps":               func() ([]int, bool) { return impl.StepsOf(m) },
	}
}

func textReplyCalls(m impl.Meander, s impl.Seaweed, folding []int) map[string]func() (string, bool) {
	return map[string]func() (string, bool){
		"show": func() (string, bool) { return impl.MeanderText(m) },
		"pieces": func() (string, bool) {
			texts, ok := impl.PieceTexts(m)
			return strings.Join(texts, " "), ok
		},
		"wind " + seaweedText(s): func() (string, bool) {
			word, ok := impl.WindWord(s)
			if word == "" {
				word = "-"
			}
			return word, ok
		},
		"semi " + foldingTextByWords(folding): func() (string, bool) {
			semi, ok := impl.SemiOfFolding(folding)
			return textByWords(semi), ok
		},
	}
}

func checkReply(t *testing.T, m impl.Meander, line string, want string, ok bool) {
	t.Helper()
	if !ok {
		want = "no"
	}
	behind, reply, done := impl.DeskLine(m, line)
	if !done || reply != want || !sameResult(behind, m) {
		t.Fatalf("the line %q on %s: the pair %s, the reply %q, %v, but the call says %q", line, pairTextByWords(m), pairTextByWords(behind), reply, done, want)
	}
}

// TestPromise10Calls holds the lines against the calls that they name.
func TestPromise10Calls(t *testing.T) {
	pairs := pairsOfAllSizes()
	seaweeds := seaweedsToTry()
	foldings := stacksUpTo(7)
	for k, m := range pairs {
		n, other := k%14, pairs[k*7%len(pairs)]
		s, folding := seaweeds[k*13%len(seaweeds)], foldings[k*17%len(foldings)]
		for line, call := range changeCalls(m, other, n) {
			behind, reply, ok := impl.DeskLine(m, line)
			want, called := call()
			wanted := pairTextByWords(want)
			if !called {
				want, wanted = m, "no"
			}
			if !ok || reply != wanted || !sameResult(behind, want) {
				t.Fatalf("the line %q on %s: the pair %s, the reply %q, %v, but the call says %s, %v", line, pairTextByWords(m), pairTextByWords(behind), reply, ok, pairTextByWords(want), called)
			}
		}
		for line, call := range numberReplyCalls(m, s, n) {
			number, ok := call()
			checkReply(t, m, line, fmt.Sprint(number), ok)
		}
		for line, call := range listReplyCalls(m, n) {
			list, ok := call()
			checkReply(t, m, line, listReplyByWords(list), ok)
		}
		for line, call := range textReplyCalls(m, s, folding) {
			text, ok := call()
			checkReply(t, m, line, text, ok)
		}
	}
}

func TestPromise10ScriptsNamed(t *testing.T) {
	for _, e := range []struct {
		script  string
		replies []string
		after   string
		failed  []int
	}{
		{"", nil, "(())|()()", nil},
		{"\n", []string{"what"}, "(())|()()", []int{1}},
		{"\n\n", []string{"what", "what"}, "(())|()()", []int{1, 2}},
		{"show\n", []string{"(())|()()"}, "(())|()()", nil},
		{"show \n", []string{"what"}, "(())|()()", []int{1}},
		{" show\n", []string{"what"}, "(())|()()", []int{1}},
		{"\nshow\n\n", []string{"what", "(())|()()", "what"}, "(())|()()", []int{1, 3}},
		{"show\r\n", []string{"what"}, "(())|()()", []int{1}},
		{"cut\nflip\ncut\n", []string{"no", "()()|(())", "no"}, "()()|(())", []int{1, 3}},
		{"take |\ntop \nbottom \nsteps\npieces\ncount\nway 0\n", []string{"|", "|", "|", "-", "no", "0", "no"}, "|", []int{5, 7}},
		{"take ()|()\nput 2 ()|()\nput 0 ()|()\ncut\ncut\ncut\n", []string{"()|()", "()()|()()", "()()()|()()()", "()()|()()", "()|()", "no"}, "()|()", []int{6}},
		{"top ()\nbottom ()\ntop ()()\nfly\nbottom (())\ncount\n", []string{"no", "no", "()()|()()", "what", "()()|(())", "1"}, "()()|(())", []int{1, 2, 4}},
		{"turn 1\nturn 101\nturn 1000000\nturn 1\n", []string{"()()|(())", "no", "what", "(())|()()"}, "(())|()()", []int{2, 3}},
		{"fly\ncut\nfly\n", []string{"what", "no", "what"}, "(())|()()", []int{1, 2, 3}},
		{"wind -|-\nindex -|-\n", []string{"-", "-1"}, "(())|()()", nil},
		{"put 1 (())|()()\nput 2 (())|()()\nput 0 ()|()\nmirror\n", []string{"((())())|(()())()", "(((())())())|((()())())()", "no", "(()(()(())))|()(()(()()))"}, "(()(()(())))|()(()(()()))", []int{3}},
	} {
		replies, ok := impl.RunScript(e.script)
		if !ok || !slices.Equal(replies, e.replies) {
			t.Errorf("the replies to %q are %q, %v", e.script, replies, ok)
		}
		after, ok := impl.DeskAfter(e.script)
		if !ok || pairTextByWords(after) != e.after {
			t.Errorf("the pair behind %q is %s, %v", e.script, pairTextByWords(after), ok)
		}
		failed, ok := impl.FailedLines(e.script)
		if !ok || !sameList(failed, e.failed) {
			t.Errorf("the failed lines of %q are %v, %v", e.script, failed, ok)
		}
	}
}

func TestPromise10NoScripts(t *testing.T) {
	for what, script := range map[string]string{
		"one word":                       "show",
		"a blank":                        " ",
		"no newline behind the last one": "show\nflip",
		"a blank behind the last one":    "show\n ",
		"carriage returns":               "show\r",
		"another newline":                "show\n\u2028",
		"51 lines":                       strings.Repeat("show\n", 51),
		"51 empty lines":                 strings.Repeat("\n", 51),
		"50 lines and a word":            strings.Repeat("show\n", 50) + "show",
		"3001 bytes":                     strings.Repeat("a", 3000) + "\n",
		"3001 bytes in lines":            strings.Repeat(strings.Repeat("a", 599)+"\n", 5) + "\n",
		"3001 bytes without a newline":   strings.Repeat("a", 3001),
		"3000 bytes without a newline":   strings.Repeat("a", 3000),
		"3001 newlines":                  strings.Repeat("\n", 3001),
		"very many bytes":                strings.Repeat("show\n", 1<<18),
	} {
		replies, ok := impl.RunScript(script)
		mustNotSucceed(t, "the replies to "+what, ok, replies)
		after, ok := impl.DeskAfter(script)
		mustNotSucceed(t, "the pair behind "+what, ok, after)
		failed, ok := impl.FailedLines(script)
		mustNotSucceed(t, "the failed lines of "+what, ok, failed)
	}
}

func TestPromise10ScriptLimits(t *testing.T) {
	if impl.MaxScript != 3000 || impl.MaxLines != 50 {
		t.Error("the limits are", impl.MaxScript, impl.MaxLines)
	}
	long := "take " + strings.Repeat("a", 594) + "\n"
	for _, script := range []string{
		strings.Repeat("turn 1\n", 49),
		strings.Repeat("turn 1\n", 50),
		strings.Repeat("turn 1\n", 51),
		strings.Repeat("\n", 50),
		strings.Repeat("\n", 51),
		strings.Repeat("meanders 6\n", 50),
		strings.Repeat("stamps 8\n", 50),
		strings.Repeat("wind 19+1|1+19\n", 50),
		strings.Repeat("a", 2998) + "\n",
		strings.Repeat("a", 2999) + "\n",
		strings.Repeat("a", 3000) + "\n",
		"flip\n" + strings.Repeat(" ", 2994) + "\n",
		"flip\n" + strings.Repeat(" ", 2995) + "\n",
		strings.Repeat(long, 5),
		strings.Repeat(long, 5) + "\n",
		strings.Repeat(long, 4) + long[1:] + "\n",
		strings.Repeat(strings.Repeat("b", 59)+"\n", 50),
		strings.Repeat(strings.Repeat("b", 59)+"\n", 49) + strings.Repeat("b", 60) + "\n",
	} {
		checkScript(t, script)
	}
	replies, ok := impl.RunScript(strings.Repeat("turn 1\n", 50))
	if !ok || len(replies) != 50 || replies[49] != "(())|()()" {
		t.Error("fifty lines", replies, ok)
	}
	failed, ok := impl.FailedLines(strings.Repeat(long, 5))
	if !ok || !sameList(failed, []int{1, 2, 3, 4, 5}) {
		t.Error("3000 bytes", failed, ok)
	}
}

// TestPromise10LineLimits has lines that no script has, since a newline would not fit.
func TestPromise10LineLimits(t *testing.T) {
	m := pairOfText("(())|()()")
	for _, line := range []string{strings.Repeat("a", 2999), strings.Repeat("a", 3000), strings.Repeat(" ", 3000), "show" + strings.Repeat(" ", 2996), "turn " + strings.Repeat("0", 2995), "take ()|()" + strings.Repeat("\x00", 2990)} {
		behind, reply, ok := impl.DeskLine(m, line)
		if !ok || reply != "what" || pairTextByWords(behind) != "(())|()()" {
			t.Errorf("a line of %d bytes: %v, %q, %v", len(line), behind, reply, ok)
		}
	}
	for _, line := range []string{strings.Repeat("a", 3001), strings.Repeat(" ", 3001), "show" + strings.Repeat(" ", 2997), strings.Repeat("a", 1<<20), "\n", "show\n", "\nshow", "show\nshow", "fly\n", "take ()|()\n", "turn 1 \n", strings.Repeat("a", 2999) + "\n"} {
		behind, reply, ok := impl.DeskLine(m, line)
		mustNotSucceed(t, fmt.Sprintf("a line of %d bytes that is none", len(line)), ok, behind, reply)
	}
}

// TestPromise10NoPairs hands over what is no pair, even where the line needs none.
func TestPromise10NoPairs(t *testing.T) {
	for what, m := range wildPairs() {
		for _, line := range []string{"", "fly", "show", "count", "cut", "take ()|()", "take |", "top ", "bottom ()", "put 0 ()|()", "meanders 3", "stamps 3", "semi 0", "index 1|1", "wind -|-", "turn 101", strings.Repeat("a", 3001), "show\n"} {
			behind, reply, ok := impl.DeskLine(m, line)
			mustNotSucceed(t, "the line "+line+" of what is "+what, ok, behind, reply)
		}
	}
}

func TestPromise10Scripts(t *testing.T) {
	kinds := map[string]int{}
	for seed := range 4000 {
		script := scatteredScript(seed)
		checkScript(t, script)
		replies, _ := impl.RunScript(script)
		for k, line := range strings.Split(script, "\n")[:len(replies)] {
			name, _, _ := strings.Cut(line, " ")
			switch replies[k] {
			case "no", "what":
				kinds[name+" "+replies[k]]++
			default:
				kinds[name+" done"]++
			}
		}
	}
	for name := range tableRows() {
		if kinds[name+" done"] < 100 {
			t.Errorf("%s: hardly any line that succeeds: %v", name, kinds)
		}
	}
	for _, name := range []string{"top", "bottom", "turn", "cut", "put", "way", "pieces", "meanders", "stamps", "semi"} {
		if kinds[name+" no"] < 20 {
			t.Errorf("%s: hardly any line whose function fails: %v", name, kinds)
		}
	}
}

// TestPromise10LineByLine hands the pair of each line of a script to the next one.
func TestPromise10LineByLine(t *testing.T) {
	for seed := range 300 {
		script := scatteredScript(10000 + seed)
		replies, _ := impl.RunScript(script)
		m := impl.FirstDesk()
		for k, line := range strings.Split(script, "\n")[:len(replies)] {
			behind, reply, ok := impl.DeskLine(m, line)
			if !ok || reply != replies[k] {
				t.Fatalf("the line %q of %q: %q, %v", line, script, reply, ok)
			}
			m = behind
		}
		if after, ok := impl.DeskAfter(script); !ok || !sameResult(after, m) {
			t.Fatalf("the pair behind %q is %v, %v", script, after, ok)
		}
	}
}
