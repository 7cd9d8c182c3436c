package tests

import (
	"fmt"
	"strings"
	"sync"
	"testing"
	"unsafe"

	"loop.example/lamson/impl"
)

// As many bytes as may be, and one more.
func TestLinesTooLong(t *testing.T) {
	t.Parallel()
	for _, ahead := range []string{"", "see\n", "call /up abc\ncalm\n", "hello\n", "call /up abc\nwrite 0\nwire\n"} {
		told := impl.LinesRun(ahead)
		for size := 590; size <= 610; size++ {
			want := told
			if size > 600 {
				want = "too long\n"
			}
			mustTell(t, ahead+strings.Repeat("x", size-len(ahead)), want)
		}
	}
	mustTell(t, strings.Repeat("see\n", 150), "")
	mustTell(t, strings.Repeat("see\n", 150)+"\n", "too long\n")
	mustTell(t, strings.Repeat("wire\n", 120), strings.Repeat("0 0\n", 120))
	mustTell(t, strings.Repeat("\n", 600), strings.Repeat("what\n", 600))
	mustTell(t, strings.Repeat(" ", 599)+"\n", "what\n")
	mustTell(t, strings.Repeat(" ", 600)+"\n", "too long\n")
	mustTell(t, strings.Repeat("\xc3\xa9", 300), "")
	mustTell(t, strings.Repeat("\xc3\xa9", 300)+"e", "too long\n")
	mustTell(t, "call /up abc"+strings.Repeat(" x", 293)+"\n", "1 open - \n")
	mustTell(t, "call /up abc"+strings.Repeat(" x", 293)+" \n", "1 open - \n")
	mustTell(t, "call /up abc"+strings.Repeat(" x", 293)+"  \n", "too long\n")
	for _, size := range []int{601, 602, 1000, 1200, 65536, 65536 + 600, 1 << 20} {
		mustTell(t, strings.Repeat("\n", size), "too long\n")
		mustTell(t, strings.Repeat("wire\n", size)[:size], "too long\n")
	}
}

// As much as can be told.
func TestLinesMuchIsTold(t *testing.T) {
	t.Parallel()
	text, calls := "", ""
	for at := range 4 {
		text += callLine("/echo", "0123456789abcdef")
		calls += fmt.Sprintf("%d done 0 0123456789abcdef\n", 1+2*at)
	}
	text += "calm\n"
	sees := (600 - len(text)) / 4
	mustTell(t, text+strings.Repeat("see\n", sees), strings.Repeat(calls, sees+1))
	mustTell(t, text+strings.Repeat("\n", 600-len(text)), strings.Repeat("what\n", 600-len(text))+calls)
}

// What is behind the last newline does not count.
func TestLinesWithoutNewline(t *testing.T) {
	t.Parallel()
	for _, line := range append(append(kindLines(), "call", "leave", "pass 0", ""), wrongLines()...) {
		for _, ahead := range []string{"", "see\n", "call /up abc\n", "call /up abc\nwrite 0\nwire\n", "call /up abc\ncalm\nhello\n", "\n", " \n"} {
			mustTell(t, ahead+line, impl.LinesRun(ahead))
		}
	}
	mustTell(t, "call /up abc\ncalm", "1 open - \n")
	mustTell(t, "call /up abc\ncalm\nsee", "1 done 0 bcd\n")
	mustTell(t, "call /up abc\ncal\nm", "what\n1 open - \n")
	mustTell(t, "call /up abc\r\ncalm\r\n", "what\n")
}

// An empty line, and one of blanks, are none.
func TestLinesEmpty(t *testing.T) {
	t.Parallel()
	mustTell(t, "\n", "what\n")
	mustTell(t, "\n\n\n", "what\nwhat\nwhat\n")
	mustTell(t, "\ncall /up abc\n\ncalm\n\n", "what\nwhat\nwhat\n1 done 0 bcd\n")
	for count := 1; count < 60; count++ {
		blanks := strings.Repeat(" ", count)
		mustTell(t, blanks+"\n", "what\n")
		mustTell(t, "call /up abc\n"+blanks+"\ncalm\n"+blanks, "what\n1 done 0 bcd\n")
		mustTell(t, blanks+"call /up abc\n", "what\n")
	}
}

// Words that are not there, one by one of each kind of line: of no path, and of no text, there is a call.
func TestLinesWordsNotThere(t *testing.T) {
	t.Parallel()
	for _, c := range []struct{ line, told string }{
		{"call", "1 done 12 \n"}, {"call ", "1 done 12 \n"}, {"call  ", "1 done 12 \n"}, {"call  abc", "1 done 12 \n"},
		{"call /up", "1 done 0 \n"}, {"call /up ", "1 done 0 \n"}, {"call /echo", "1 done 0 \n"}, {"call /len", "1 done 0 0\n"}, {"call /len ", "1 done 0 0\n"}, {"call /no", "1 done 12 \n"},
	} {
		mustTell(t, c.line+"\n", "1 open - \n")
		mustTell(t, c.line+"\ncalm\n", c.told)
		mustTell(t, c.line+"\n"+turnLines(0)+turnLines(1), c.told)
	}
	// A call of no path has a head with none, one of no text has no frame of it.
	mustTell(t, "call\nwrite 0\nwire\n", fmt.Sprintln(4+len("\x81\x84\x45\x010"), 0)+"1 open - \n")
	mustTell(t, "call  abc\nwrite 0\nwire\n", fmt.Sprintln(4+len("\x81\x84\x45\x013")+4+3, 0)+"1 open - \n")
	mustTell(t, "call /up\nwrite 0\nwire\n", fmt.Sprintln(4+len("\x41\x03/up\x84\x45\x010"), 0)+"1 open - \n")
	base := "call /up abc\nwrite 0\n"
	for _, line := range []string{"leave", "leave ", "write", "write ", "pass", "pass ", "pass  ", "pass 0", "pass 0 ", "pass  90"} {
		mustTell(t, base+line+"\nwire\n", "20 0\n1 open - \n")
	}
}

// Further words do not count, nor do blanks behind the words of a line.
func TestLinesFurtherWords(t *testing.T) {
	t.Parallel()
	for _, c := range fewLines(5) {
		text := c.text
		for _, more := range []string{" ", " x", "  ", " 0 1 see", " \x00\xff"} {
			out, same := "", true
			for _, line := range strings.Split(strings.TrimSuffix(text, "\n"), "\n") {
				words := strings.Split(line, " ")
				full := map[string]int{"call": 3, "leave": 2, "write": 2, "pass": 3, "calm": 1, "see": 1, "wire": 1}[words[0]]
				same = same && (full == 0 || len(words) >= full)
				out += line + more + "\n"
			}
			if !same || len(out) > 600 || text == "" {
				continue
			}
			if got := impl.LinesRun(out); got != c.told {
				t.Fatalf("LinesRun(%q) is\n%q, not\n%q", out, got, c.told)
			}
		}
	}
	mustTell(t, "call /up abc def\ncall /up abc \ncalm 1\nsee 1\nwire 0 0\nwrite 0 1\nleave 1 3\n", "1 done 0 bcd\n3 done 0 bcd\n0 0\n1 done 0 bcd\n3 done 0 bcd\n")
	mustTell(t, "call /up abc\ncall /up e\nleave 1 3\n", "1 gone - \n3 open - \n")
	mustTell(t, "call /up abc\nwrite 0 1\npass 0 5 90\nwire\n", "15 0\n1 open - \n")
}

// Between two blanks side by side there is a word, which is empty.
func TestLinesTwoBlanks(t *testing.T) {
	t.Parallel()
	mustTell(t, "call  /up abc\ncalm\n", "1 done 12 \n")
	mustTell(t, "call /up  abc\ncalm\n", "1 done 0 \n")
	mustTell(t, "call /len  abc\ncalm\n", "1 done 0 0\n")
	mustTell(t, "call /up abc  def\ncalm\n", "1 done 0 bcd\n")
	mustTell(t, "call /up abc\nleave  1\n", "1 open - \n")
	mustTell(t, "call /up abc\nwrite  0\nwire\n", "0 0\n1 open - \n")
	for _, line := range []string{"pass  0 90", "pass 0  90", "pass  0  90", " pass 0 90"} {
		_, left := lastLines(t, mustRunAs(t, "call /up abc\nwrite 0\n"+line+"\nwire\n"), 2)
		if left[0] != "20 0\n" {
			t.Errorf("behind %q there is told %q", line, left)
		}
	}
	mustTell(t, "calm  x\nsee  x\nwire  x\n", "0 0\n")
	mustTell(t, "  see\n  wire\n", "what\nwhat\n")
}

// Numbers of one figure, and of two, the first of which may be 0; all else is none.
func TestLinesNumbers(t *testing.T) {
	t.Parallel()
	base := lines("call /up 01234567", "call /up 01234567", "write 0")
	all := 0
	if _, err := fmt.Sscan(impl.LinesRun(base+"wire\n"), &all); err != nil || all != 44 {
		t.Fatalf("there are %d bytes, %v", all, err)
	}
	for n := range 100 {
		for _, word := range []string{fmt.Sprint(n), fmt.Sprintf("%02d", n)} {
			left := max(0, all-n)
			if n > 90 {
				left = all
			}
			mustTell(t, base+"pass 0 "+word+"\nwire\n", fmt.Sprintf("%d 0\n1 open - \n3 open - \n", left))
			ends := []string{"open", "open"}
			if n == 1 || n == 3 {
				ends[n/2] = "gone"
			}
			mustTell(t, base+"leave "+word+"\n", fmt.Sprintf("1 %s - \n3 %s - \n", ends[0], ends[1]))
		}
		mustTell(t, base+fmt.Sprintf("pass 0 %03d\nwire\n", n), fmt.Sprintf("%d 0\n1 open - \n3 open - \n", all))
	}
	for _, word := range noNumbers() {
		for _, line := range []string{"pass 0 " + word, "pass " + word + " 90", "leave " + word, "write " + word} {
			mustTell(t, base+line+"\nwire\n", fmt.Sprintf("%d 0\n1 open - \n3 open - \n", all))
		}
	}
	// Each byte that is no figure, alone, ahead of one, and behind one.
	for c := range 256 {
		sign := string([]byte{byte(c)})
		if strings.ContainsAny(sign, "0123456789 \n") {
			continue
		}
		for _, word := range []string{sign, "1" + sign, "0" + sign, sign + "1"} {
			mustTell(t, base+"pass 0 "+word+"\nleave "+word+"\nwire\n", fmt.Sprintf("%d 0\n1 open - \n3 open - \n", all))
			mustTell(t, "call /up e\nwrite "+word+"\nwire\n", "0 0\n1 open - \n")
			mustTell(t, base+"pass "+word+" 90\nwire\n", fmt.Sprintf("%d 0\n1 open - \n3 open - \n", all))
		}
	}
	mustTell(t, "call /up e\nwrite 00\nwire\npass 00 90\nwrite 01\nwire\npass 01 90\n", "18 0\n0 21\n1 done 0 f\n")
}

// What stands ahead of a wrong line is told, and what comes behind it is done, however many there are.
func TestLinesGoOn(t *testing.T) {
	t.Parallel()
	for _, wrong := range wrongLines() {
		text := lines("call /up abc", "see", wrong, "write 0", wrong, wrong, "pass 0 90", "wire", wrong, "write 1", "wire", "pass 1 90", wrong)
		mustTell(t, text, lines("1 open - ", "what", "what", "what", "0 0", "what", "0 23", "what", "1 done 0 bcd"))
	}
	for _, text := range anyLines(300, 100) {
		with, without := "", ""
		for _, line := range strings.Split(strings.TrimSuffix(text, "\n"), "\n") {
			if _, told := wantLine(wantWorldNew(), line); told == "what\n" || len(with)+len(line)+2 > 600 {
				continue
			}
			with, without = with+"\n"+line+"\n", without+line+"\n"
		}
		if got, want := strings.ReplaceAll(impl.LinesRun(with), "what\n", ""), impl.LinesRun(without); got != want {
			t.Fatalf("LinesRun(%q) is, without what is told of no lines,\n%q, not\n%q", with, got, want)
		}
	}
}

// Bytes of any kind are no fault of the program.
func TestLinesAnyBytes(t *testing.T) {
	t.Parallel()
	p := &picker{seed: 310}
	for at := range 1500 {
		text := []byte(stirred(p.of(601), uint32(at)))
		for by := range text {
			switch p.of(6) {
			case 0:
				text[by] = '\n'
			case 1:
				text[by] = ' '
			}
		}
		mustRunAs(t, string(text))
	}
	for _, text := range anyLines(400, 300) {
		b := []byte(text)
		for range 1 + p.of(8) {
			b[p.of(len(b))] = byte(p.of(256))
		}
		mustRunAs(t, string(b))
	}
}

// What is told shares nothing with the text, nor with what is told once more; the text is as it was.
func TestLinesMemory(t *testing.T) {
	t.Parallel()
	for _, c := range fewLines(3) {
		text := c.text
		given := []byte(text + "behind")
		asked := unsafe.String(unsafe.SliceData(given), len(text))
		one, two := impl.LinesRun(asked), impl.LinesRun(asked)
		if string(given) != text+"behind" || one != two {
			t.Fatalf("%q became %q; there is told %q, then %q", text, given, one, two)
		}
		mustBeApart(t, "what is told and the text", []piece{wordPiece(one)}, []piece{wordPiece(asked)})
		if one != "too long\n" {
			mustBeApart(t, "what is told, twice", []piece{wordPiece(one)}, []piece{wordPiece(two)})
		}
		kept := strings.Clone(one)
		for at := range given {
			given[at] = '?'
		}
		if one != kept {
			t.Fatalf("what is told became %q", one)
		}
	}
}

// Runs at one time tell the same as one by one: none keeps anything.
func TestLinesAtOnce(t *testing.T) {
	t.Parallel()
	texts := anyLines(40, 60)
	got := make([]string, 5*len(texts))
	var all sync.WaitGroup
	for turn := range got {
		all.Go(func() { got[turn] = impl.LinesRun(texts[turn%len(texts)]) })
	}
	all.Wait()
	for turn, told := range got {
		if want, _ := wantLines(texts[turn%len(texts)]); told != want {
			t.Fatalf("at one time LinesRun(%q) is\n%q, not\n%q", texts[turn%len(texts)], told, want)
		}
	}
}
