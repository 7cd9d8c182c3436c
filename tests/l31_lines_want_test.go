package tests

import (
	"fmt"
	"slices"
	"strings"
	"sync"
	"testing"

	"loop.example/lamson/impl"
)

// This file has what the document says of lines, worked out apart from the program, and texts of lines of all kinds; the tests are in the other files of this layer.

// wantLineWords is what the document says of the words of a line: of three of them, as no line has more.
func wantLineWords(line string) [3]string {
	words, at := [3]string{}, 0
	for _, c := range []byte(line) {
		if c == ' ' {
			at++
		} else if at < 3 {
			words[at] += string([]byte{c})
		}
	}
	return words
}

// wantLineNumber is what the document says of the numbers of a line.
func wantLineNumber(word string) int {
	for n := range 100 {
		if word == fmt.Sprint(n) || word == fmt.Sprintf("%02d", n) {
			return n
		}
	}
	return -1
}

// wantCalls is what the document says of how all calls are told.
func wantCalls(w impl.World) string {
	out := ""
	for _, s := range w.Caller.Streams {
		status := "-"
		for _, f := range slices.Backward(s.Got) {
			if f.Name == ":status" {
				status = f.Val
			}
		}
		out += fmt.Sprintf("%d %s %s %s\n", s.Id, []string{"", "open", "done", "gone"}[s.State], status, s.Text)
	}
	return out
}

// wantLineCalm is what the document says of a calm. A round that changes nothing is the last one that is worked out, as no more of them would change anything.
func wantLineCalm(w impl.World) impl.World {
	for range 16 {
		then := wantWorldCalm(w, 1)
		if sameWorld(then, w) {
			return w
		}
		w = then
	}
	return w
}

// wantLine is what the document says of a line: the world behind it, and what it tells.
func wantLine(w impl.World, line string) (impl.World, string) {
	words := wantLineWords(line)
	a, b := wantLineNumber(words[1]), wantLineNumber(words[2])
	switch words[0] {
	case "call":
		return wantWorldDo(w, calling(words[1], words[2])), ""
	case "leave":
		return wantWorldDo(w, leaving(a)), ""
	case "write":
		return wantWorldDo(w, saying(a)), ""
	case "pass":
		return wantWorldDo(w, passing(a, b)), ""
	case "calm":
		return wantLineCalm(w), ""
	case "see":
		return w, wantCalls(w)
	case "wire":
		return w, fmt.Sprintln(len(w.Up), len(w.Down))
	}
	return w, "what\n"
}

// wantLines is what the document says of lines: what they tell, and the world behind them. Of too many bytes there is none.
func wantLines(text string) (string, impl.World) {
	if len(text) > 600 {
		return "too long\n", impl.World{}
	}
	w, out := wantWorldNew(), ""
	for {
		line, behind, is := strings.Cut(text, "\n")
		if !is {
			return out + wantCalls(w), w
		}
		told := ""
		w, told = wantLine(w, line)
		out, text = out+told, behind
	}
}

// mustRunAs fails unless LinesRun answers as the document says; it answers that.
func mustRunAs(t *testing.T, text string) string {
	t.Helper()
	got := impl.LinesRun(text)
	if want, _ := wantLines(text); got != want {
		t.Fatalf("LinesRun(%q) is\n%q, not\n%q", text, got, want)
	}
	return got
}

// mustTell fails unless lines tell this, by hand as well as by the document's words.
func mustTell(t *testing.T, text, want string) {
	t.Helper()
	if got := mustRunAs(t, text); got != want {
		t.Fatalf("LinesRun(%q) is\n%q, not\n%q", text, got, want)
	}
}

// lines is lines, each with its newline.
func lines(some ...string) string {
	out := ""
	for _, line := range some {
		out += line + "\n"
	}
	return out
}

// turnLines is one side writing, and all of that coming to the other one.
func turnLines(side int) string {
	return lines(fmt.Sprint("write ", side), fmt.Sprint("pass ", side, " 90"))
}

// linePaths is paths: all that there are, and some that there are none of.
func linePaths() []string {
	return []string{"/up", "/echo", "/len", "/no", "", "/", "up", "/echo/", "/upp", "0123456789abcdef"}
}

// lineTexts is texts of each size.
func lineTexts() []string {
	texts := []string{}
	for size := range 17 {
		texts = append(texts, "az09y-bcx:/mnklj"[:size], strings.Repeat("zy", 8)[:size])
	}
	return texts
}

// kindLines is lines of each kind, such as most often can be.
func kindLines() []string {
	return []string{"call /up abc", "leave 1", "write 0", "write 1", "pass 0 90", "pass 1 90", "pass 0 7", "calm", "see", "wire", "hello"}
}

// wrongLines is lines that are none.
func wrongLines() []string {
	return []string{"", " ", "   ", "hello", "what", "what is", "0", "1", "-", "Call /up abc", "CALM", "Calm", "cal", "calms", "callm", "calm/", "se", "sees", "see.", "saw", "wir", "wires", "wire0", "passs 0 90", "pas 0 90", "writ 0", "writes 0", "leav 1", "leaves 1", "leave1", "write0", "pass0 90", "call/up abc", " call /up abc", " leave 1", " write 0", " pass 0 90", " calm", " see", " wire", "  see", "\tsee", "see\t", "see\tx", "see\r", "calm\r", "wire\r", "call\t/up\tabc", "leave\t1", "write\v0", "pass\u00a00\u00a090", "\x00", "\xff", "see\x00", "\x00see", "s\xffe", "\u00e9", "\u2028", "\u0455ee", "\uff53\uff45\uff45", "\xef\xbb\xbfsee", "too long", "done", "open", "gone", "event", "end", "EvCall"}
}

// idleLines is lines that change nothing, and tell nothing, whatever is ahead of them.
func idleLines() []string {
	idle := []string{}
	for _, word := range noNumbers() {
		idle = append(idle, "leave "+word, "write "+word, "pass "+word+" 90", "pass 0 "+word, "pass 1 "+word)
	}
	for _, id := range []string{"0", "2", "4", "6", "8", "9", "00", "02", "10", "11", "13", "30", "99"} {
		idle = append(idle, "leave "+id)
	}
	for _, side := range []string{"2", "3", "9", "02", "10", "11", "99"} {
		idle = append(idle, "write "+side, "pass "+side+" 90", "pass "+side+" 0")
	}
	for _, n := range []string{"0", "00", "91", "92", "95", "99"} {
		idle = append(idle, "pass 0 "+n, "pass 1 "+n)
	}
	for _, w := range []string{"A", "e.e", "_", "\x00", "\xff", "a\tb", "a\r", "\u00e9", "00000000000000000", "eeeeeeeeeeeeeeeee"} {
		idle = append(idle, "call "+w+" abc", "call /up "+w, "call "+w+" "+w, "call "+w)
	}
	return append(idle, "leave", "leave ", "leave  1", "leave  3", "write", "write ", "write  0", "write  1", "pass", "pass ", "pass 0", "pass 1", "pass 0 ", "pass 1 ", "pass  0 90", "pass  1 90", "pass 0  90", "pass 1  90", "pass   90")
}

// noNumbers is words that are no number of a line.
func noNumbers() []string {
	return []string{"", "-", "+", "-1", "+1", "-0", "+0", "000", "001", "003", "090", "100", "256", "257", "300", "0000000001", "18446744073709551617", "4294967297", "a", "a1", "1a", "0x", "x1", "0b", "1e", "1.", ".1", "1:", ":", ":1", "1/", "/", "/1", "0/", "0:", "1\t", "\t1", "1\r", "1\x00", "\x001", "\xff", "1\xff", "\xb1", "\u0661", "\uff11", "\u00b9", "one"}
}

// lineStore is what lines are made of, worked out once.
type lineStore struct {
	paths, texts, wrong, idle []string
}

// newLineStore is what lines are made of.
func newLineStore() lineStore {
	return lineStore{paths: linePaths(), texts: lineTexts(), wrong: wrongLines(), idle: idleLines()}
}

// line picks a line, most of them such as can be.
func (r lineStore) line(p *picker) string {
	switch p.of(24) {
	case 0, 1, 2:
		return "call " + pick(p, r.paths) + " " + pick(p, r.texts)
	case 3:
		return fmt.Sprint("leave ", 1+2*p.of(4))
	case 4, 5, 6:
		return "write 0"
	case 7, 8, 9:
		return "write 1"
	case 10:
		return "see"
	case 11:
		return "wire"
	case 12:
		return pick(p, r.wrong)
	case 13:
		return pick(p, r.idle)
	case 14:
		return pick(p, []string{"see again", "wire 1 2", "write 0 1", "write 01 0", "pass 0 30 0", "pass 01 90", "pass 00 05", "call /up abc e", "leave 01", "leave 3 1"})
	}
	return fmt.Sprintf("pass %d %d", p.of(2), pick(p, []int{1, 3, 5, 9, 14, 30, 60, 89, 90, 90, 90}))
}

// anyLines is so many texts of lines without any plan, some of them with as many bytes as may be, or some more; one in so many lines is a calm.
func anyLines(count, calms int) []string {
	store, p := newLineStore(), &picker{seed: 31}
	texts := []string{}
	for at := range count {
		text := ""
		for range 10 + at%70 {
			line := store.line(p)
			if p.is(calms) {
				line = "calm"
			}
			if at%7 == 0 || len(text)+len(line) < 600 {
				text += line + "\n"
			}
		}
		texts = append(texts, text)
	}
	return texts
}

// orderLines is texts in which three lines of any kinds follow each other, some calls being ahead of them, and all being told behind each.
func orderLines() []string {
	heads := []string{"", lines("call /echo 0123456789abcdef", "call /up xyz", "write 0", "pass 0 20", "pass 0 9")}
	texts := []string{}
	for at, one := range kindLines() {
		for by, two := range kindLines() {
			for in, three := range kindLines() {
				texts = append(texts, heads[(at+by+in)%2]+lines(one, "wire", two, "see", "wire", three, "see", "wire"))
			}
		}
	}
	return texts
}

// halfLines is texts of lines in which long texts are told half, or whole, at one turn or another.
func halfLines() []string {
	texts := []string{}
	for size := 6; size <= 16; size++ {
		text := lines("call /no", "call /echo "+"az09y-bcx:/mnklj"[:size])
		for at := range 7 {
			text += turnLines(at % 2)
			texts = append(texts, text, text+"leave 3\n", text+lines("leave 3", "calm"))
		}
	}
	return texts
}

// toldLines is lines, what the document says that they tell, and the world behind them.
type toldLines struct {
	text, told string
	world      impl.World
}

// manyLines is texts of lines of all kinds, worked out once for all tests.
var manyLines = sync.OnceValue(func() []toldLines {
	many := []toldLines{}
	for _, text := range slices.Concat([]string{""}, orderLines(), halfLines(), anyLines(700, 80)) {
		told, w := wantLines(text)
		many = append(many, toldLines{text: text, told: told, world: w})
	}
	return many
})

// fewLines is one in so many of them.
func fewLines(in int) []toldLines {
	few := []toldLines{}
	for at, c := range manyLines() {
		if at%in == 0 {
			few = append(few, c)
		}
	}
	return few
}

// The texts of the tests are of all kinds.
func TestLinesEdgesAreThere(t *testing.T) {
	t.Parallel()
	seen := map[string]int{}
	for _, c := range manyLines() {
		if c.told == "too long\n" {
			seen["too long"]++
			continue
		}
		seen["what"] += strings.Count(c.told, "what\n")
		seen[fmt.Sprint(len(c.world.Caller.Streams), " calls")]++
		for _, s := range c.world.Caller.Streams {
			seen[[]string{"", "open", "done", "gone"}[s.State]]++
			if s.State == 1 && s.Text != "" {
				seen["half told"]++
			}
			if s.State == 3 && len(s.Got) > 0 {
				seen["gone, but answered"]++
			}
		}
		if c.world.Up != "" && c.world.Down != "" {
			seen["on both ways"]++
		}
		if len(c.text) > 590 {
			seen["nearly too long"]++
		}
	}
	for _, what := range []string{"too long", "what", "0 calls", "1 calls", "2 calls", "3 calls", "4 calls", "open", "done", "gone", "half told", "gone, but answered", "on both ways", "nearly too long"} {
		if seen[what] < 5 {
			t.Errorf("just %d are of: %s", seen[what], what)
		}
	}
}
