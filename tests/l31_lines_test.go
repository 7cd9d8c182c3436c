package tests

import (
	"fmt"
	"slices"
	"strings"
	"testing"

	"loop.example/lamson/impl"
)

// saidOf is how the answer of a path is told behind the number of its call.
func saidOf(path, text string) string {
	status, said := wantAnswer(path, text)
	return "done " + status + " " + said
}

// callLine is the line of a call.
func callLine(path, text string) string {
	return "call " + path + " " + text + "\n"
}

// lastLines is the last lines of what is told, so many, and what is ahead of them.
func lastLines(t *testing.T, told string, count int) (string, []string) {
	t.Helper()
	all := strings.SplitAfter(told, "\n")
	if all[len(all)-1] != "" || len(all)-1 < count {
		t.Fatalf("%q has no %d lines", told, count)
	}
	from := len(all) - 1 - count
	return strings.Join(all[:from], ""), all[from : len(all)-1]
}

// One text of each kind of line, with what it tells written out by hand.
func TestLinesKnown(t *testing.T) {
	t.Parallel()
	for _, c := range []struct{ text, told string }{
		{"", ""},
		{"calm\n", ""},
		{"see\n", ""},
		{"wire\n", "0 0\n"},
		{"what\n", "what\n"},
		{"call /up abc\n", "1 open - \n"},
		{"call /up abc\nsee\n", "1 open - \n1 open - \n"},
		{"call /up abc\ncalm\n", "1 done 0 bcd\n"},
		{"call /up abc\ncalm\ncall /len abc\nsee\ncalm\n", "1 done 0 bcd\n3 open - \n1 done 0 bcd\n3 done 0 3\n"},
		{"call /up abc\nleave 1\n", "1 gone - \n"},
		{"call /up abc\nwrite 0\nwire\n", "20 0\n1 open - \n"},
		{"call /up abc\nwrite 0\npass 0 7\nwire\nsee\npass 0 90\nwire\n", "13 0\n1 open - \n0 0\n1 open - \n"},
		{"call /up abc\nwrite 0\npass 0 90\nwrite 1\nwire\npass 1 16\nsee\npass 1 6\nsee\npass 1 1\n", "0 23\n1 open 0 \n1 open 0 \n1 done 0 bcd\n"},
		{"call /no abc\ncall /echo a-b\ncalm\nleave 1\nhello\ncall /len 0123456789abcdef\nwrite 0\nwire\npass 0 99\nleave 5\nwire\nwrite 0\nwire\nsee\n", "what\n26 0\n26 0\n30 0\n1 done 12 \n3 done 0 a-b\n5 gone - \n1 done 12 \n3 done 0 a-b\n5 gone - \n"},
		{"call /up abc\nwrite 0\npass 0 90\nwrite 1\npass 1 17\nleave 1\nsee\ncalm\n", "1 gone 0 \n1 gone 0 bcd\n"},
	} {
		mustTell(t, c.text, c.told)
	}
}

// All lines, in any order, against what the document says.
func TestLinesRun(t *testing.T) {
	t.Parallel()
	for _, c := range manyLines() {
		if got := impl.LinesRun(c.text); got != c.told {
			t.Fatalf("LinesRun(%q) is\n%q, not\n%q", c.text, got, c.told)
		}
	}
}

// lineOf is the line of an event; there is none of an event of no kind.
func lineOf(e impl.Event) string {
	switch e.Kind {
	case impl.EvCall:
		return callLine(e.Path, e.Text)
	case impl.EvLeave:
		return fmt.Sprintf("leave %d\n", e.A)
	case impl.EvWrite:
		return fmt.Sprintf("write %d\n", e.A)
	case impl.EvPass:
		return fmt.Sprintf("pass %d %d\n", e.A, e.B)
	}
	return ""
}

// What lines do is what happens in a world: they tell what there is behind the same events, as far as a text has room for them.
func TestLinesAsWorlds(t *testing.T) {
	t.Parallel()
	for at, events := range fewPlays(5) {
		text, count := "", 0
		for count < len(events) && len(text)+len(lineOf(events[count])) < 595-at%200 {
			text += lineOf(events[count])
			count++
		}
		w, _ := impl.WorldPlay(events[:count])
		want := fmt.Sprintln(len(w.Up), len(w.Down)) + wantCalls(w)
		if got := impl.LinesRun(text + "wire\n"); got != want {
			t.Fatalf("LinesRun(%q) is\n%q, not\n%q", text+"wire\n", got, want)
		}
	}
}

// Promise 102: in the end there is a line of each call, of each its number, what becomes of it, a status, and a text.
func TestLinesEnd(t *testing.T) {
	t.Parallel()
	for _, c := range fewLines(2) {
		text, told := c.text, impl.LinesRun(c.text)
		if len(text) > 600 {
			if told != "too long\n" {
				t.Fatalf("of %d bytes there is told %q", len(text), told)
			}
			continue
		}
		ahead, calls := lastLines(t, told, len(c.world.Caller.Streams))
		for at, line := range calls {
			words := strings.Split(strings.TrimSuffix(line, "\n"), " ")
			if len(words) != 4 || words[0] != fmt.Sprint(1+2*at) || !slices.Contains([]string{"open", "done", "gone"}, words[1]) || !slices.Contains([]string{"-", "0", "12"}, words[2]) || !wantOk(words[3]) {
				t.Fatalf("behind %q a call is told as %q", text, line)
			}
		}
		if silent := !strings.Contains(text, "see") && !strings.Contains(text, "wire"); silent && strings.ReplaceAll(ahead, "what\n", "") != "" {
			t.Fatalf("behind %q there is told %q, too", text, ahead)
		}
	}
}

// Promise 103.
func TestLinesCalm(t *testing.T) {
	t.Parallel()
	mustTell(t, lines("call /up abcxyz", "call /echo abcxyz", "call /len abcxyz", "call /no abcxyz", "calm"), lines("1 done 0 bcdyzz", "3 done 0 abcxyz", "5 done 0 6", "7 done 12 "))
	for at, text := range lineTexts() {
		for by, path := range linePaths() {
			mustTell(t, callLine(path, text)+"calm\n", "1 "+saidOf(path, text)+"\n")
			calls, told := "", ""
			for call := range 1 + (at+by)%4 {
				path, text := linePaths()[(by+call)%10], lineTexts()[(at+7*call)%34]
				calls += callLine(path, text)
				told += fmt.Sprintf("%d %s\n", 1+2*call, saidOf(path, text))
			}
			mustTell(t, calls+"calm\n", told)
		}
	}
}

// Promise 104: a text that goes at once, and its answer, that comes at once.
func TestLinesAnswer(t *testing.T) {
	t.Parallel()
	for _, path := range linePaths() {
		for _, text := range lineTexts() {
			if _, said := wantAnswer(path, text); len(text) > 8 || len(said) > 8 {
				continue
			}
			call := callLine(path, text) + turnLines(0)
			mustTell(t, call, "1 open - \n")
			mustTell(t, call+"write 1\n", "1 open - \n")
			mustTell(t, call+turnLines(1), "1 "+saidOf(path, text)+"\n")
			mustTell(t, callLine(path, text)+lines("write 0", "pass 0 5", "pass 0 1", "pass 0 90", "write 1", "pass 1 3", "pass 1 90"), "1 "+saidOf(path, text)+"\n")
			two := callLine(path, text) + callLine("/no", "")
			mustTell(t, two+turnLines(0)+turnLines(1), "1 "+saidOf(path, text)+"\n3 done 12 \n")
		}
	}
}

// What is said, or passes, just one way, or the wrong way round, is no answer.
func TestLinesNoAnswer(t *testing.T) {
	t.Parallel()
	for _, turns := range []string{turnLines(0), turnLines(1), turnLines(1) + turnLines(0), turnLines(0) + "write 1\n", turnLines(0) + "pass 1 90\n", "write 0\n" + turnLines(1), "pass 0 90\n" + turnLines(1), turnLines(0) + turnLines(0)} {
		mustTell(t, "call /up abc\n"+turns, "1 open - \n")
	}
}

// Promise 105: a call that is given up at any point, and one that is not.
func TestLinesLeave(t *testing.T) {
	t.Parallel()
	for at, text := range lineTexts() {
		path := linePaths()[at%10]
		mustTell(t, callLine(path, text)+"leave 1\n", "1 gone - \n")
		mustTell(t, callLine(path, text)+lines("leave 1", "calm"), "1 gone - \n")
		calls := callLine(path, text) + callLine("/up", text)
		_, up := wantAnswer("/up", text)
		mustTell(t, calls+lines("leave 1", "calm"), "1 gone - \n3 done 0 "+up+"\n")
		mustTell(t, calls+lines("leave 3", "calm"), "1 "+saidOf(path, text)+"\n3 gone - \n")
		mustTell(t, calls+lines("leave 3", "leave 1", "calm"), "1 gone - \n3 gone - \n")
		for size := 1; size <= 90; size += 1 + size/2 {
			told := mustRunAs(t, calls+lines("write 0", fmt.Sprint("pass 0 ", size), "leave 1", "calm"))
			if _, both := lastLines(t, told, 2); !strings.HasPrefix(both[0], "1 gone ") || both[1] != "3 done 0 "+up+"\n" {
				t.Fatalf("behind a call given up there is told %q", told)
			}
		}
		// One that is done is not given up any more.
		mustTell(t, callLine(path, text)+lines("calm", "leave 1", "calm"), "1 "+saidOf(path, text)+"\n")
	}
}

// Promise 106: half of a text of 16 letters goes, and the other half when there is room told.
func TestLinesHalf(t *testing.T) {
	t.Parallel()
	for _, text := range []string{"abcdefghijklmnop", "zzzzzzzzzzzzzzzz", "ponmlkjihgfedcba"} {
		call := callLine("/echo", text) + "write 0\n"
		head := 4 + len("\x41"+wantWriteWord("/echo")+"\x84\x45\x0216")
		mustTell(t, call+"wire\n", fmt.Sprintf("%d 0\n1 open - \n", head+4+8))
		// Nothing more is said, unless there is room told.
		mustTell(t, call+"write 0\nwire\n", fmt.Sprintf("%d 0\n1 open - \n", head+4+8))
		mustTell(t, call+"pass 0 90\nwrite 0\nwire\n", "0 0\n1 open - \n")
		mustTell(t, call+"pass 0 90\nwrite 1\nwrite 0\nwire\n", "0 10\n1 open - \n")
		mustTell(t, call+"pass 0 90\nwrite 1\npass 1 9\nwrite 0\nwire\n", "0 1\n1 open - \n")
		half := call + "pass 0 90\n" + turnLines(1) + "write 0\n"
		mustTell(t, half+"wire\n", fmt.Sprintf("%d 0\n1 open - \n", 4+8))
		answer := half + "pass 0 90\n" + turnLines(1)
		mustTell(t, answer, "1 open 0 "+text[:8]+"\n")
		mustTell(t, answer+turnLines(1), "1 open 0 "+text[:8]+"\n")
		mustTell(t, answer+turnLines(0)+turnLines(1), "1 done 0 "+text+"\n")
		// What is just counted comes when all of the text did.
		mustTell(t, callLine("/len", text)+turnLines(0)+turnLines(1), "1 open - \n")
		mustTell(t, callLine("/len", text)+turnLines(0)+turnLines(1)+turnLines(0)+turnLines(1), "1 done 0 16\n")
	}
	for size, text := range map[int]string{8: "abcdefgh", 9: "abcdefghi"} {
		told := impl.LinesRun(callLine("/len", text) + turnLines(0) + turnLines(1))
		if want := []string{"1 done 0 8\n", "1 open - \n"}[size-8]; told != want {
			t.Errorf("of %d letters there is told %q", size, told)
		}
	}
}

// mustBeIdle fails unless a line changes nothing, and tells just this, wherever it stands among others.
func mustBeIdle(t *testing.T, line, told string) {
	t.Helper()
	four := lines("call /up abc", "call /up e", "call /no e", "call /echo x-y", "leave 3") + turnLines(0) + turnLines(1)
	for _, c := range []struct{ ahead, seen, behind, end string }{
		{"", "0 0\n", "", ""},
		{"call /up abc\n", "1 open - \n0 0\n", turnLines(0) + turnLines(1), "1 done 0 bcd\n"},
		{"call /up abc\nwrite 0\ncall /len e\n", "1 open - \n3 open - \n20 0\n", turnLines(0) + turnLines(1), "1 done 0 bcd\n3 done 0 1\n"},
		{"call /echo 01234567\nwrite 0\npass 0 90\nwrite 1\n", "1 open - \n0 28\n", "pass 1 90\n", "1 done 0 01234567\n"},
		{four, "1 done 0 bcd\n3 gone - \n5 done 12 \n7 done 0 x-y\n0 0\n", "", "1 done 0 bcd\n3 gone - \n5 done 12 \n7 done 0 x-y\n"},
	} {
		mustTell(t, c.ahead+"see\nwire\n"+line+"\nsee\nwire\n"+c.behind, c.seen+told+c.seen+c.end)
	}
}

// Promise 107: what is no line.
func TestLinesWhat(t *testing.T) {
	t.Parallel()
	for _, line := range wrongLines() {
		mustTell(t, line+"\n", "what\n")
		mustBeIdle(t, line, "what\n")
	}
	for c := range 256 {
		if c == '\n' || c == ' ' {
			continue
		}
		sign := string([]byte{byte(c)})
		for _, kind := range []string{"see", "wire", "calm"} {
			mustTell(t, lines(sign+kind, kind[:2]+sign+kind[2:], kind+sign, sign), strings.Repeat("what\n", 4))
		}
		mustTell(t, lines("call"+sign+"/up"), "what\n")
	}
}

// Promise 107: what cannot be.
func TestLinesIdle(t *testing.T) {
	t.Parallel()
	for _, line := range idleLines() {
		mustTell(t, line+"\n", "")
		mustBeIdle(t, line, "")
	}
	for _, w := range badWords() {
		if strings.ContainsAny(w, " \n") || len(w) > 200 {
			continue
		}
		mustTell(t, lines("call "+w+" abc", "call /up "+w, "call /up abc"), "1 open - \n")
	}
}

// Promise 107: no more calls than there may be; those that are done, or gone, count as well.
func TestLinesMost(t *testing.T) {
	t.Parallel()
	for count := range 12 {
		open, done, gone := "", "", ""
		for at := range min(count, 4) {
			open += fmt.Sprintf("%d open - \n", 1+2*at)
			done += fmt.Sprintf("%d done 0 bcd\n", 1+2*at)
			gone += fmt.Sprintf("%d gone - \n", 1+2*at)
		}
		mustTell(t, strings.Repeat("call /up abc\n", count), open)
		mustTell(t, strings.Repeat("call /up abc\n", count)+"calm\n", done)
		mustTell(t, strings.Repeat("call /up abc\ncalm\n", count), done)
		mustTell(t, strings.Repeat("call /up abc\nleave 1\nleave 3\nleave 5\nleave 7\n", count), gone)
	}
	four := strings.Repeat("call /up abc\n", 4)
	mustTell(t, four+"call /echo e\nsee\n", impl.LinesRun(four+"see\n"))
	mustTell(t, four+"call\nwrite 0\nwire\n", impl.LinesRun(four+"write 0\nwire\n"))
}

// Promise 108.
func TestLinesBehind(t *testing.T) {
	t.Parallel()
	for _, c := range fewLines(5) {
		text, told := c.text, impl.LinesRun(c.text)
		if len(text) > 595 {
			continue
		}
		ahead, calls := lastLines(t, told, len(c.world.Caller.Streams))
		end := strings.Join(calls, "")
		for line, more := range map[string]string{"see": end, "wire": fmt.Sprintln(len(c.world.Up), len(c.world.Down)), "what": "what\n"} {
			if len(text)+len(line) >= 600 {
				continue
			}
			if got, want := impl.LinesRun(text+line+"\n"), ahead+more+end; got != want {
				t.Fatalf("LinesRun(%q) is %q, behind it with %s\n%q, not\n%q", text, told, line, got, want)
			}
		}
	}
}

// Lines that just tell, put behind each line of a text, leave what all others do, and tell what there is at each point.
func TestLinesBetween(t *testing.T) {
	t.Parallel()
	for _, text := range anyLines(400, 200) {
		w, between, told := wantWorldNew(), "", ""
		for _, line := range strings.Split(strings.TrimSuffix(text, "\n"), "\n") {
			if len(between)+len(line)+15 > 600 {
				break
			}
			then, said := wantLine(w, line)
			w = then
			between += lines(line, "see", "wire", "?")
			told += said + wantCalls(w) + fmt.Sprintln(len(w.Up), len(w.Down)) + "what\n"
		}
		if got := impl.LinesRun(between); got != told+wantCalls(w) {
			t.Fatalf("LinesRun(%q) is\n%q, not\n%q", between, got, told+wantCalls(w))
		}
	}
}
