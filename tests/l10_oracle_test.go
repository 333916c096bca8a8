package tests

import (
	"fmt"
	"regexp"
	"slices"
	"strings"
	"sync"

	"loop.example/g01126/impl"
)

var numberPattern = regexp.MustCompile(`\A(0|[1-9][0-9]{0,5})\z`)

// isSystemText strikes out brackets that stand next to each other until there are none.
func isSystemText(text string) bool {
	if len(text) > 12 {
		return false
	}
	for strings.Contains(text, "()") {
		text = strings.ReplaceAll(text, "()", "")
	}
	return text == ""
}

func isPairText(text string) bool {
	sides := strings.Split(text, "|")
	return len(sides) == 2 && len(sides[0]) == len(sides[1]) && isSystemText(sides[0]) && isSystemText(sides[1])
}

func isFoldingText(text string) bool {
	stamps := []byte(text)
	slices.Sort(stamps)
	return text != "" && strings.HasPrefix("01234567", string(stamps))
}

func isSeaweedText(text string) bool {
	_, ok := seaweedOfText(text)
	return ok
}

// isWordOf has the kinds of words that the document's table names by letters.
func isWordOf(kind rune, word string) bool {
	switch kind {
	case 'M':
		return isPairText(word)
	case 'P':
		return isSystemText(word)
	case 'W':
		return isSeaweedText(word)
	case 'F':
		return isFoldingText(word)
	}
	return numberPattern.MatchString(word)
}

func numberOfText(text string) int {
	n := 0
	for _, digit := range text {
		n = 10*n + int(digit-'0')
	}
	return n
}

func listReplyByWords(list []int) string {
	if len(list) == 0 {
		return "-"
	}
	return strings.ReplaceAll(strings.Trim(fmt.Sprint(list), "[]"), " ", ",")
}

// mirroredText reads brackets from behind, each of which turns round.
func mirroredText(brackets string) string {
	mirrored := ""
	for _, bracket := range brackets {
		if bracket == '(' {
			mirrored = ")" + mirrored
		} else {
			mirrored = "(" + mirrored
		}
	}
	return mirrored
}

// turnedByWords moves each joint of a text by as many points.
func turnedByWords(text string, by int) string {
	m := pairOfText(text)
	place := func(i int) int { return (i + by) % len(m.Top) }
	return pairTextByWords(impl.Meander{Top: movedBy(m.Top, place), Bottom: movedBy(m.Bottom, place)})
}

// textsOfSemis tells for each folding of up to six stamps with the stamp 0 at the
// top, as digits, its semi-meander.
var textsOfSemis = sync.OnceValue(func() map[string]string {
	texts := map[string]string{}
	for n := 1; n <= 6; n++ {
		for _, p := range semisByWords(n) {
			texts[foldingTextByWords(foldingOfSemiByWords(p))] = textByWords(p)
		}
	}
	return texts
})

// told finds what is at a place of a list that begins with the place 1.
func told(list []int, place int) (string, bool) {
	if place < 1 || place > len(list) {
		return "", false
	}
	return fmt.Sprint(list[place-1]), true
}

// tableRow is a line of the document's table: the kinds of the words behind its name,
// and what becomes of the text of a pair, or what the reply is.
type tableRow struct {
	kinds  string
	effect bool
	tell   func(text string, words []string) (string, bool)
}

func effectRows() map[string]tableRow {
	return map[string]tableRow{
		"take": {"M", true, func(text string, words []string) (string, bool) {
			return words[0], true
		}},
		"top": {"P", true, func(text string, words []string) (string, bool) {
			put := words[0] + text[strings.Index(text, "|"):]
			return put, isPairText(put)
		}},
		"bottom": {"P", true, func(text string, words []string) (string, bool) {
			put := text[:strings.Index(text, "|")+1] + words[0]
			return put, isPairText(put)
		}},
		"flip": {"", true, func(text string, words []string) (string, bool) {
			above, below, _ := strings.Cut(text, "|")
			return below + "|" + above, true
		}},
		"mirror": {"", true, func(text string, words []string) (string, bool) {
			above, below, _ := strings.Cut(text, "|")
			return mirroredText(above) + "|" + mirroredText(below), true
		}},
		"turn": {"N", true, func(text string, words []string) (string, bool) {
			by := numberOfText(words[0])
			return turnedByWords(text, by), by <= 100
		}},
		"cut": {"", true, func(text string, words []string) (string, bool) {
			shortest := shortestByWords(pairOfText(text))
			if len(shortest) == 0 {
				return "", false
			}
			return outsideByText(text, shortest[0][0], shortest[0][1]), true
		}},
		"put": {"NM", true, func(text string, words []string) (string, bool) {
			at := numberOfText(words[0])
			if at > len(text)/2 {
				return "", false
			}
			put := insertedByText(text, at, words[1])
			return put, isPairText(put)
		}},
	}
}

func pairQuestionRows() map[string]tableRow {
	return map[string]tableRow{
		"show": {"", false, func(text string, words []string) (string, bool) {
			return text, true
		}},
		"count": {"", false, func(text string, words []string) (string, bool) {
			return fmt.Sprint(len(curvesByWords(pairOfText(text)))), true
		}},
		"way": {"N", false, func(text string, words []string) (string, bool) {
			from := numberOfText(words[0])
			if from >= len(text)/2 {
				return "", false
			}
			return listReplyByWords(wayByWords(pairOfText(text), from)), true
		}},
		"steps": {"", false, func(text string, words []string) (string, bool) {
			return listReplyByWords(stepsByWords(pairOfText(text))), true
		}},
		"pieces": {"", false, func(text string, words []string) (string, bool) {
			if text == "|" {
				return "", false
			}
			return strings.Join(sortedTexts(piecesByWords(pairOfText(text), lastOf)), " "), true
		}},
	}
}

func otherQuestionRows() map[string]tableRow {
	return map[string]tableRow{
		"meanders": {"N", false, func(text string, words []string) (string, bool) {
			return told([]int{1, 2, 8, 42, 262, 1828}, numberOfText(words[0]))
		}},
		"stamps": {"N", false, func(text string, words []string) (string, bool) {
			return told([]int{1, 2, 6, 16, 50, 144, 462, 1392}, numberOfText(words[0]))
		}},
		"semi": {"F", false, func(text string, words []string) (string, bool) {
			semi, ok := textsOfSemis()[words[0]]
			return semi, ok
		}},
		"index": {"W", false, func(text string, words []string) (string, bool) {
			s, _ := seaweedOfText(words[0])
			return fmt.Sprint(indexByWords(s)), true
		}},
		"wind": {"W", false, func(text string, words []string) (string, bool) {
			s, _ := seaweedOfText(words[0])
			_, letters := windByWords(s)
			return letters + strings.Repeat("-", 1-min(len(letters), 1)), true
		}},
	}
}

var tableRows = sync.OnceValue(func() map[string]tableRow {
	all := effectRows()
	for _, rows := range []map[string]tableRow{pairQuestionRows(), otherQuestionRows()} {
		for name, row := range rows {
			all[name] = row
		}
	}
	return all
})

func isReadByWords(row tableRow, words []string) bool {
	if len(words) != len(row.kinds) {
		return false
	}
	for k, kind := range row.kinds {
		if !isWordOf(kind, words[k]) {
			return false
		}
	}
	return true
}

// lineByWords returns the text of the pair behind a line, and the reply to it.
func lineByWords(text string, line string) (string, string) {
	words := strings.Split(line, " ")
	row, known := tableRows()[words[0]]
	if !known || !isReadByWords(row, words[1:]) {
		return text, "what"
	}
	reply, ok := row.tell(text, words[1:])
	if !ok {
		return text, "no"
	}
	if row.effect {
		text = reply
	}
	return text, reply
}

// played is all that comes of a script.
type played struct {
	Replies []string
	After   string
	Failed  []int
}

func scriptByWords(script string) (played, bool) {
	whole := script == "" || strings.HasSuffix(script, "\n")
	if len(script) > 3000 || strings.Count(script, "\n") > 50 || !whole {
		return played{}, false
	}
	p := played{After: "(())|()()"}
	for script != "" {
		line, behind, _ := strings.Cut(script, "\n")
		text, reply := lineByWords(p.After, line)
		p.After, p.Replies, script = text, append(p.Replies, reply), behind
		if reply == "no" || reply == "what" {
			p.Failed = append(p.Failed, len(p.Replies))
		}
	}
	return p, true
}

// numberWords are numbers around each limit, and words that are none.
func numberWords() []string {
	words := []string{"", "00", "01", "007", "0000000", "0000001", "000001", "+0", "-0", "+1", "-1", "--1", "1.0", "1e2", "0x1", "0b1", "1_0", "1,0", "a", "one", "1\t", "\t1", "1\r", "1\x00", "\xff", "\u0661", "\uff11", "()", "|", "-"}
	for n := range 15 {
		words = append(words, fmt.Sprint(n))
	}
	for _, n := range []int{99, 100, 101, 131, 132, 4096, 99999, 100000, 100001, 999998, 999999} {
		words = append(words, fmt.Sprint(n))
	}
	return append(words, "1000000", "1000001", "9999999", "0999999", "2147483648", "4294967296", "4294967297", "9223372036854775807", "9223372036854775808", "18446744073709551616", "18446744073709551617", "-9223372036854775808", strings.Repeat("9", 1400), strings.Repeat("0", 1400), strings.Repeat("0", 1400)+"1")
}

// systemWords are texts of systems of all sizes, and words that are none.
func systemWords() []string {
	words := []string{"(", ")", ")(", "())", "(()", "())(", "(()))(", "()()()()()()()", "((((((()))))))", "()|()", "|", "0", "-", "[]", "(]", "()\t", "\t()", "()\x00", "()\r", "\uff08\uff09", strings.Repeat("()", 700), strings.Repeat("(", 700) + strings.Repeat(")", 700)}
	for _, p := range systemsUpTo(3) {
		words = append(words, textByWords(p))
	}
	for n := 4; n <= 6; n++ {
		all := systemsByWords(n)
		for k := 0; k < len(all); k += len(all)/4 - 1 {
			words = append(words, textByWords(all[k]))
		}
	}
	return words
}

// pairWords are texts of pairs of all sizes, and words that are none.
func pairWords() []string {
	words := []string{"", "()", "()()", "()|", "|()", "||", "()||()", "()|()|", "|()|()", "()|()|()", "()|()()", "()()|()", "(|)", "(|(", ")|)", ")(|()", "()|)(", "())(|()()", "(()|())", "()/()", "0|0", "1|1", "-|-", "()|()\t", "()\t|()", "()|()\x00", "()|()\r", "()()()()()()()|()()()()()()()", "((((((()))))))|()()()()()()()", "()()()()()()|()()()()()()()", strings.Repeat("()", 300) + "|" + strings.Repeat("()", 300)}
	return append(words, textsOf(pairsOfAllSizes())...)
}

func seaweedWords() []string {
	words := []string{"", "|", "-", "-|", "|-", "1|-", "-|1", "--|--", "-|-|-", "1|1|1", "0|0", "1|1+0", "01|1", "1|01", "+1|1", "-1|-1", "1+|1", "1++1|2", "+1+1|2", "2|1", "1|2", "1+1|1", "21|21", "20+1|21", "20|21", "21|20", "2-1|3", "2,1|3", "2+1/3", "a|a", "1|1\t", "\t1|1", "1|1\x00", "1|1\r", "()|()", "9223372036854775807+2|1", "18446744073709551617|1", strings.Repeat("1+", 700) + "1|1"}
	for _, s := range append(seaweedsUpTo(3), seaweedsOfTwo(7)...) {
		words = append(words, seaweedText(s))
	}
	for sum := 8; sum <= 20; sum++ {
		words = append(words, fmt.Sprintf("%d|%d", sum, sum), seaweedText(scatteredSeaweed(sum, sum)), seaweedText(scatteredSeaweed(sum, sum+1)))
	}
	return words
}

func foldingWords() []string {
	words := []string{"", "-", "00", "1", "2", "02", "12", "011", "0122", "013", "0,1", "-0", "+0", "0+1", "a", "0a", "01\t", "\t01", "01\x00", "01\r", "/", ":", "0/", "01234568", "01234566", "012345678", "876543210", "0123456789", "01234567:", "\u0660", strings.Repeat("0", 1000), strings.Repeat("01", 500)}
	for _, p := range stacksUpTo(4) {
		words = append(words, foldingTextByWords(p))
	}
	for n := 5; n <= 7; n++ {
		all := stacksByWords(n)
		for k := 0; k < len(all); k += len(all)/60 + 1 {
			words = append(words, foldingTextByWords(all[k]))
		}
		for _, p := range onTopByWords(n) {
			words = append(words, foldingTextByWords(p))
		}
	}
	return append(words, "01234567", "76543210", "07654321", "02143657")
}

// wordsOf returns words of one of the table's kinds, and words that are none.
func wordsOf(kind rune) []string {
	switch kind {
	case 'M':
		return pairWords()
	case 'P':
		return systemWords()
	case 'W':
		return seaweedWords()
	case 'F':
		return foldingWords()
	}
	return numberWords()
}

// pairsOfAllSizes has all pairs of few arches and some of each greater number.
var pairsOfAllSizes = sync.OnceValue(func() []impl.Meander {
	all := pairsUpTo(2)
	for n, step := range []int{3: 4, 4: 23, 5: 211, 6: 2111} {
		if step == 0 {
			continue
		}
		for k, m := range pairsByWords(n) {
			if k%step == 0 {
				all = append(all, m)
			}
		}
	}
	for _, text := range []string{"()()()|()()()", "(())()|(())()", "()(())()|()(())()", "((()))|((()))", "()()()()()()|()()()()()()", "(((((())))))|(((((())))))", "(((((())))))|()()()()()()", "(()())|(())()", "()((()))|((()))()"} {
		all = append(all, pairOfText(text))
	}
	return all
})

// scatteredScript has lines of all kinds, most of which succeed.
func scatteredScript(seed int) string {
	const limit = 1 << 20
	next := scatter(seed, limit)
	pick := func(n int) int { return (next() + limit) % n }
	words := scriptWords()
	script := ""
	for range pick(51) {
		name := words['A'][pick(len(words['A']))]
		line := name
		for _, kind := range tableRows()[name].kinds {
			if pick(40) > 0 {
				line += " " + words[kind][pick(len(words[kind]))]
			}
		}
		switch pick(30) {
		case 0:
			line += " "
		case 1:
			line += " " + words['N'][pick(len(words['N']))]
		}
		if len(script)+len(line) < 3000 {
			script += line + "\n"
		}
	}
	return script
}

// scriptWords are the names of all lines, and short words of each kind, those more
// often with which a line often changes a pair or has a reply.
var scriptWords = sync.OnceValue(func() map[rune][]string {
	few := []string{"|", "()|()", "(())|()()", "()()|()()"}
	words := map[rune][]string{
		'A': {"", "fly", "Show", "put", "put", "put", "turn", "turn", "cut", "top", "bottom"},
		'M': slices.Repeat(few, 15),
		'N': slices.Repeat([]string{"0", "1", "2", "3", "4", "5", "6"}, 6),
		'P': slices.Repeat([]string{"", "()", "()()", "(())"}, 5),
	}
	for name := range tableRows() {
		words['A'] = append(words['A'], name)
	}
	slices.Sort(words['A'])
	for _, kind := range "NMPWF" {
		for _, word := range wordsOf(kind) {
			if len(word) <= 30 && !strings.Contains(word, "\n") {
				words[kind] = append(words[kind], word)
			}
		}
	}
	return words
})
