package tests

import (
	"fmt"
	"slices"
	"strings"
	"testing"

	"loop.example/lamson/impl"
)

// mustHearInTwo fails unless bytes that are heard in two parts are heard as at once. What is behind the frame that makes an end bad is not taken in any more, so that Came may be less by parts.
func mustHearInTwo(t *testing.T, e impl.End, b string, cut int) {
	t.Helper()
	whole, first := mustHearAs(t, e, b), mustHearAs(t, e, b[:cut])
	if !impl.EndOk(first) || len(first.Wait) > 40 {
		return
	}
	both := mustHearAs(t, first, b[cut:])
	if first.Bad && !e.Bad {
		both.Came, whole.Came = "", ""
	}
	mustBeEnd(t, fmt.Sprintf("EndHear of %x, cut at %d", b, cut), both, whole)
}

// Promise 65.
func TestEndHearInTwo(t *testing.T) {
	store, p := newEndStore(), &picker{seed: 65}
	good := 0
	for _, e := range manyEnds(t) {
		b := store.bytes(p, e, 1+p.of(4))
		b = b[:min(len(b), 300)]
		if len(e.Came+b) > 300 {
			continue
		}
		if !mustHearAs(t, e, b).Bad {
			good++
		}
		for cut := 0; cut <= len(b); cut += 1 + cut/20 {
			mustHearInTwo(t, e, b, cut)
		}
	}
	if good < 100 {
		t.Errorf("just %d are good", good)
	}
}

// Promise 65: byte by byte.
func TestEndHearByteByByte(t *testing.T) {
	for text := range 9 {
		b := headOf(1, false, callHead("/up", "abc")) + dataOf(1, false, "abcdefgh"[:text]) + moreBytes(1, 5) + moreBytes(0, 3) + dataOf(1, true, "") + moreBytes(1, 1) + headOf(5, true, callHead("/up", "abc")) + resetOf(1)
		whole, e := mustBeGood(t, impl.EndNew(true), b), impl.EndNew(true)
		for at := range len(b) {
			e = mustBeGood(t, e, b[at:at+1])
			e = mustBeGood(t, e, "")
		}
		mustBeEnd(t, "byte by byte", e, whole)
	}
}

// Promise 66.
func TestEndHearRoom(t *testing.T) {
	store, p := newEndStore(), &picker{seed: 66}
	heard := 0
	for _, e := range manyEnds(t) {
		for range 12 {
			b := store.bytes(p, e, 1+p.of(6))
			got := mustHearAs(t, e, b[:min(len(b), 300)])
			if !slices.Equal(got.Wait[:len(e.Wait)], e.Wait) {
				t.Fatalf("%+v became %+v", e.Wait, got.Wait)
			}
			told, all := got.Wait[len(e.Wait):], 0
			for at, s := range got.Streams {
				before := newStream(s.Id)
				if at < len(e.Streams) {
					before = e.Streams[at]
				}
				n := len(s.Text) - len(before.Text)
				if s.Flow.Room != before.Flow.Room-n || moreOf(told, s.Id) != n {
					t.Fatalf("%d came of %+v, which is %+v; %+v wait", n, before, s, told)
				}
				all += n
			}
			if got.Flow.Room != e.Flow.Room-all || moreOf(told, 0) != all {
				t.Fatalf("%d came to %+v, which is %+v", all, e, got)
			}
			heard += all
		}
	}
	if heard < 1500 {
		t.Errorf("just %d are heard", heard)
	}
}

// Promise 66: of each text, what tells of more of all waits ahead of what tells of more of the stream.
func TestEndHearTellsMore(t *testing.T) {
	e := mustBeGood(t, impl.EndNew(true), headOf(3, false, callHead("/up", ""))+headOf(7, false, callHead("/up", "")))
	e = mustBeGood(t, e, dataOf(3, false, "ab")+dataOf(7, true, "abcdefgh")+dataOf(3, true, "c"))
	if want := []impl.Frame{moreFrame(0, 2), moreFrame(3, 2), moreFrame(0, 8), moreFrame(7, 8), moreFrame(0, 1), moreFrame(3, 1)}; !slices.Equal(e.Wait, want) {
		t.Errorf("%+v wait, not %+v", e.Wait, want)
	}
}

// There is room again when that is said, not when it came, and then all of it.
func TestEndRoomAgain(t *testing.T) {
	e := mustBeGood(t, impl.EndNew(true), headOf(1, false, callHead("/echo", "0123456789abcdef"))+headOf(3, false, callHead("/up", "01234567")))
	e = mustBeGood(t, e, dataOf(1, false, "01234567")+dataOf(3, false, "0123456"))
	mustBeBad(t, e, dataOf(1, false, "8"))
	mustBeBad(t, e, dataOf(3, false, "78"))
	if e.Flow.Room != 1 || e.Streams[0].Flow.Room != 0 || e.Streams[1].Flow.Room != 1 {
		t.Errorf("there is room as %+v", e)
	}
	e, b := mustSayAs(t, e)
	mustBeFrames(t, b, moreFrame(0, 8), moreFrame(1, 8), moreFrame(0, 7), moreFrame(3, 7))
	if e.Flow.Room != 16 || e.Streams[0].Flow.Room != 8 || e.Streams[1].Flow.Room != 8 || len(e.Wait) != 0 {
		t.Errorf("there is room again as %+v", e)
	}
	e = mustBeGood(t, e, dataOf(1, false, "89abcde")+dataOf(3, true, "7"))
	mustBeBad(t, e, dataOf(1, true, "ff"))
	e = mustBeGood(t, e, dataOf(1, true, "f"))
	if s := e.Streams[0]; s.Text != "0123456789abcdef" || s.Say != s.Text || !s.Heard {
		t.Errorf("all of it came as %+v", s)
	}
}

// There is room again of streams that are done, gone, or unknown, and never more than FlowTop.
func TestEndRoomAtTop(t *testing.T) {
	for _, state := range []int{1, 2, 3} {
		for room := range 32 {
			e := impl.EndNew(true)
			e.Flow.Room = room
			e.Streams = []impl.Stream{{Id: 3, State: state, Flow: impl.Flow{Send: 4, Room: room}}}
			for _, n := range []int{1, 8, 31} {
				e.Wait = []impl.Frame{moreFrame(0, n), moreFrame(3, n), moreFrame(5, n), moreFrame(3, 2)}
				got, b := mustSayAs(t, e)
				if len(b) != 20 || got.Flow.Room != min(31, room+n) || got.Streams[0].Flow.Room != min(31, room+n+2) || got.Streams[0].Flow.Send != 4 {
					t.Fatalf("with room for %d, and %d more, it is %+v", room, n, got)
				}
			}
		}
	}
}

// Promise 67.
func TestEndBad(t *testing.T) {
	store, p := newEndStore(), &picker{seed: 67}
	for _, e := range manyEnds(t) {
		e.Bad = true
		for _, b := range []string{"", "\x00", moreBytes(0, 1), "\xff\xff\xff\xff", store.bytes(p, e, 3)} {
			b = b[:min(len(b), 300)]
			mustBeEnd(t, "a bad end that heard something", mustHearAs(t, e, b), e)
		}
		then, b := mustSayAs(t, e)
		if b != "" {
			t.Fatalf("a bad end says %x", b)
		}
		mustBeEnd(t, "EndWrite of a bad end", then, impl.End{})
	}
	// Calls of a bad end are begun and given up all the same, but none is said.
	e := mustHearAs(t, impl.EndNew(false), "\xff\xff\xff\xff")
	e, _, ok := mustCallAs(t, e, "/up", "abc")
	if _, b := mustSayAs(t, e); !ok || !e.Bad || b != "" {
		t.Errorf("%+v says %x", e, b)
	}
	if e, ok = mustLeaveAs(t, e, 1); !ok || !e.Bad {
		t.Errorf("%+v is left: %v", e, ok)
	}
}

// framesThatAreNone is bytes that begin no frame.
func framesThatAreNone() []string {
	none := []string{
		"\xc9\x00\x00\x01", "\xff\x00\x00\x01", "\x00\x00\x02\x01", "\x00\x00\xff\x01", "\x00\x00\x00\x00", "\x00\x00\x00\x02", "\x00\x00\x00\x09", "\x00\x00\x00\xff",
		"\x00\x02\x00\x01", "\x00\x04\x00\x01", "\x00\x07\x00\x01", "\x00\x09\x00\x01", "\x00\xff\x00\x01", "\x00\x03\x01\x01", "\x01\x03\x00\x01e", "\x00\x03\x00\x00",
		"\x00\x08\x00\x00", "\x01\x08\x00\x00\x00", "\x01\x08\x00\x00\x20", "\x01\x08\x00\x00\xff", "\x01\x08\x01\x00\x01", "\x02\x08\x00\x00\x01\x01", "\x01\x08\x00\x02\x01", "\x01\x08\x00\x09\x01",
		"\x00\x01\x00\x00", "\x02\x01\x00\x04\x82\x84",
	}
	for size := 201; size < 256; size++ {
		none = append(none, string([]byte{byte(size), 1, 0, 1}))
	}
	return none
}

// Promise 67: bytes that begin no frame, at once or behind others; they stay where they came.
func TestEndHearNoFrame(t *testing.T) {
	for _, answers := range []bool{false, true} {
		for _, none := range framesThatAreNone() {
			for _, lead := range []string{"", moreBytes(0, 1), moreBytes(0, 1) + moreBytes(0, 2)} {
				for _, rest := range []string{"", "\x00", moreBytes(0, 1), strings.Repeat("e", 100)} {
					e := mustHearAs(t, impl.EndNew(answers), lead+none+rest)
					if !e.Bad || e.Came != none+rest {
						t.Fatalf("%x then %x is heard as %+v", lead, none, e)
					}
				}
				for cut := 1; cut < len(none); cut++ {
					e := mustHearAs(t, impl.EndNew(answers), lead+none[:cut])
					if !e.Bad {
						e = mustHearAs(t, e, none[cut:])
					}
					if !e.Bad {
						t.Fatalf("%x then %x, cut at %d, is heard as %+v", lead, none, cut, e)
					}
				}
			}
		}
	}
	// A kind that is none is told when all of the body is there.
	e := mustBeGood(t, impl.EndNew(true), "\x02\x07\x00\x01e")
	mustBeBad(t, e, "e")
	mustBeGood(t, impl.EndNew(true), "\xff\x00\x00")
}

// A frame that is none for the end is taken from what came, and what is behind it stays.
func TestEndBadKeepsTheRest(t *testing.T) {
	for _, rest := range []string{"", "\x00", moreBytes(0, 1), "\xff\xff\xff\xff"} {
		for _, b := range []string{resetOf(1), dataOf(1, false, "e"), headOf(1, true, callHead("/up", "")), moreBytes(1, 1), moreBytes(0, 16)} {
			if e := mustHearAs(t, impl.EndNew(false), b+rest); !e.Bad || e.Came != rest {
				t.Fatalf("%x then %x is heard as %+v", b, rest, e)
			}
		}
	}
}

// Promise 68.
func TestEndHearNothing(t *testing.T) {
	for _, e := range manyEnds(t) {
		if _, _, is := wantFrameRead(e.Came); is == 0 {
			mustBeEnd(t, "EndHear of no bytes", mustHearAs(t, e, ""), e)
		}
	}
	for _, b := range []string{headOf(1, false, callHead("/echo", "abc")), moreBytes(0, 15), "\xc8\x00\x00\x01" + strings.Repeat("e", 200)} {
		for cut := range len(b) {
			e := impl.EndNew(true)
			got := mustBeGood(t, e, b[:cut])
			e.Came = b[:cut]
			mustBeEnd(t, "an end to which some of a frame came", got, e)
			mustBeEnd(t, "one that hears no bytes then", mustBeGood(t, got, ""), e)
		}
	}
	// What came is heard with nothing behind it, if it is whole.
	e := impl.EndNew(true)
	e.Came = moreBytes(0, 15)
	if got := mustBeGood(t, e, ""); got.Came != "" || got.Flow.Send != 31 {
		t.Errorf("what came is heard as %+v", got)
	}
}

// 300 bytes are heard, 301 are nothing; what came and these are 300 at most, else the end is as it was.
func TestEndHearTooMany(t *testing.T) {
	long := "\xc8\x00\x00\x01" + strings.Repeat("e", 195)
	for came := 0; came <= 199; came++ {
		for _, more := range []int{0, 1, 99, 100, 101, 102, 200, 299 - came, 300 - came, 301 - came, 302 - came, 299, 300, 301, 302, 1000} {
			if more < 0 {
				continue
			}
			e := impl.EndNew(true)
			e.Came = long[:came]
			b := (long + strings.Repeat("e", 1000))[came : came+more]
			got := mustHearAs(t, e, b)
			switch {
			case more > 300:
				mustBeEnd(t, "EndHear of too many", got, impl.End{})
			case came+more > 300:
				mustBeEnd(t, "EndHear of too many together", got, e)
			case came+more < 204:
				e.Came += b
				mustBeEnd(t, "EndHear of some of a frame", got, e)
			default:
				if !got.Bad {
					t.Fatalf("%d and %d is %+v", came, more, got)
				}
			}
		}
	}
	full := strings.Repeat(moreBytes(0, 1), 15) + strings.Repeat(resetOf(1), 60)
	if e := mustHearAs(t, impl.EndNew(true), full[:300]); !e.Bad || e.Flow.Send != 31 || len(e.Came) != 221 {
		t.Errorf("300 bytes are heard as %+v", e)
	}
	mustBeEnd(t, "EndHear of 301", mustHearAs(t, impl.EndNew(true), full[:301]), impl.End{})
}

// Of an end to which 301 bytes to 600 came nothing is heard; with 601 it is not ok.
func TestEndCameMuch(t *testing.T) {
	for size := 290; size <= 610; size++ {
		e := impl.EndNew(false)
		e.Came = strings.Repeat(moreBytes(0, 1), 200)[:size]
		got := mustHearAs(t, e, "")
		switch {
		case size > 600:
			mustBeEnd(t, "what came is too much", got, impl.End{})
		case size > 300:
			mustBeEnd(t, "what came is more than is heard", got, e)
		default:
			if !got.Bad || got.Flow.Send != 31 {
				t.Fatalf("%d bytes are heard as %+v", size, got)
			}
		}
		if impl.EndOk(e) != (size <= 600) {
			t.Fatalf("an end to which %d bytes came is %v", size, impl.EndOk(e))
		}
	}
}

// With 40 frames that wait bytes are heard, with 41 they are not; 60 may wait.
func TestEndWaitMuch(t *testing.T) {
	b := headOf(1, false, callHead("/up", "")) + dataOf(1, false, "ab") + dataOf(1, false, "c") + dataOf(1, true, "d")
	for size := range 70 {
		e := impl.EndNew(true)
		e.Wait = slices.Repeat([]impl.Frame{moreFrame(5, 1)}, size)
		got := mustHearAs(t, e, b)
		switch {
		case size > 60:
			mustBeEnd(t, "too many wait", got, impl.End{})
		case size > 40:
			mustBeEnd(t, "more wait than bytes are heard with", got, e)
		default:
			if got.Bad || len(got.Wait) != size+6 || !got.Streams[0].Heard {
				t.Fatalf("with %d waiting it is %+v", size, got)
			}
		}
		if impl.EndOk(e) != (size <= 60) {
			t.Fatalf("an end with %d waiting is %v", size, impl.EndOk(e))
		}
		if _, said := mustSayAs(t, e); len(said) != size*5 && size <= 60 || said != "" && size > 60 {
			t.Fatalf("an end with %d waiting says %x", size, said)
		}
	}
}

// That 40 wait is asked once, ahead of all: the frames of bytes that are heard may be more, even more than may wait.
func TestEndWaitMoreByOneHearing(t *testing.T) {
	e := impl.EndNew(true)
	e.Flow.Room = 31
	e = mustBeGood(t, e, headOf(1, false, callHead("/up", "")))
	e.Streams[0].Flow.Room = 31
	e.Wait = slices.Repeat([]impl.Frame{moreFrame(5, 1)}, 40)
	for count := range 17 {
		got := mustBeGood(t, e, strings.Repeat(dataOf(1, false, "e"), count))
		if len(got.Wait) != 40+2*count || got.Streams[0].Text != strings.Repeat("e", count) || impl.EndOk(got) != (count <= 10) {
			t.Fatalf("%d texts are heard as %+v", count, got)
		}
	}
}

// Promise 69.
func TestEndHeardAsSaid(t *testing.T) {
	store, p := newEndStore(), &picker{seed: 69}
	for range 60 {
		k := newTalk()
		for range 1 + p.of(4) {
			k.call(t, pick(p, store.paths), pick(p, store.words))
		}
		for range 8 {
			k.round(t, 1+p.of(90))
		}
		if len(k.answerer.Streams) != len(k.caller.Streams) {
			t.Fatalf("of %+v %+v is heard", k.caller.Streams, k.answerer.Streams)
		}
		for at, s := range k.caller.Streams {
			if got := k.answerer.Streams[at]; got.Id != s.Id || !slices.Equal(got.Got, s.Head) || got.Text != s.Say || !got.Heard {
				t.Fatalf("of %+v %+v is heard", s, got)
			}
		}
	}
}

// Promise 69: what fits into the windows is heard at once.
func TestEndHeardAtOnce(t *testing.T) {
	c := impl.EndNew(false)
	for _, text := range []string{"01234567", "", "a", "bcdefgh"} {
		c, _, _ = mustCallAs(t, c, "/up", text)
	}
	c, b := mustSayAs(t, c)
	a := mustBeGood(t, impl.EndNew(true), b)
	for at, s := range c.Streams {
		if got := a.Streams[at]; got.Id != s.Id || !slices.Equal(got.Got, s.Head) || got.Text != s.Say || !got.Heard || !s.Said {
			t.Fatalf("of %+v %+v is heard", s, got)
		}
	}
}

// answerTexts is texts of all kinds, such as no end says, too.
func answerTexts() []string {
	all := make([]byte, 256)
	for at := range all {
		all[at] = byte(at)
	}
	return append(someWords(), string(all), stirred(1000, 3), strings.Repeat("y", 5000), "ABCXYZ", "`az{", "\xe4\xf6", "yz", "y z", "\x00")
}

// Promises 70 and 71.
func TestEndAnswer(t *testing.T) {
	texts := answerTexts()
	for at, text := range texts {
		other := texts[(at*13+5)%len(texts)]
		for _, path := range []string{"/echo", "/up", "/len"} {
			status, answer := impl.EndAnswer(path, text)
			_, want := wantAnswer(path, text)
			if status != "0" || answer != want || path != "/len" && len(answer) != len(text) {
				t.Fatalf("EndAnswer(%q, %q) is %q, %q", path, text, status, answer)
			}
			_, second := impl.EndAnswer(path, other)
			_, both := impl.EndAnswer(path, text+other)
			if path != "/len" && both != answer+second || path == "/len" && both != fmt.Sprint(len(text)+len(other)) {
				t.Fatalf("EndAnswer(%q, %q) is %q", path, text+other, both)
			}
		}
		for _, path := range []string{"", "/", "/no", "up", "len", "echo", "/UP", "/Len", "/up/", "/up ", " /up", "/upp", "/ech", "/echoo", "//up", "/le", ":path", "/up\x00", text + "/"} {
			if status, answer := impl.EndAnswer(path, text); status != "12" || answer != "" {
				t.Fatalf("EndAnswer(%q, %q) is %q, %q", path, text, status, answer)
			}
		}
	}
	for _, c := range []struct{ path, text, answer string }{
		{"/up", "abcdefghijklmnopqrstuvwxyz", "bcdefghijklmnopqrstuvwxyzz"}, {"/up", "0123456789:/-", "0123456789:/-"}, {"/up", "AYZ`{", "AYZ`{"},
		{"/echo", "ABC \x00", "ABC \x00"}, {"/len", "", "0"}, {"/len", "abcdefghijkl", "12"}, {"/len", "\xc3\xa4", "2"},
	} {
		if status, answer := impl.EndAnswer(c.path, c.text); status != "0" || answer != c.answer {
			t.Errorf("EndAnswer(%q, %q) is %q, %q", c.path, c.text, status, answer)
		}
	}
}

// What is answered is by the first path of the head, and by none, if there is none; answers have the status, and their kind.
func TestEndAnswers(t *testing.T) {
	for _, c := range []struct {
		head         []impl.Field
		status, text string
	}{
		{callHead("/up", ""), "0", "bcd"}, {callHead("/echo", ""), "0", "abc"}, {callHead("/len", ""), "0", "3"}, {callHead("/no", ""), "12", ""}, {callHead("", ""), "12", ""},
		{[]impl.Field{{Name: ":path", Val: "/len"}, {Name: ":path", Val: "/up"}}, "0", "3"},
		{[]impl.Field{{Name: "size", Val: "3"}, {Name: ":path", Val: "/up", Never: true}}, "0", "bcd"},
		{[]impl.Field{{Name: "path", Val: "/up"}}, "12", ""}, {[]impl.Field{{Name: "kind", Val: "text"}}, "12", ""},
	} {
		for _, b := range []string{headOf(5, false, c.head) + dataOf(5, true, "abc"), headOf(5, false, c.head) + dataOf(5, false, "ab") + dataOf(5, false, "c") + dataOf(5, true, "")} {
			s := mustBeGood(t, impl.EndNew(true), b).Streams[0]
			want := []impl.Field{{Name: ":status", Val: c.status}, {Name: "kind", Val: "text"}}
			if s.Id != 5 || s.State != 1 || !slices.Equal(s.Head, want) || s.Say != c.text || s.Begun || s.Said || s.Sent != 0 || !s.Heard || !slices.Equal(s.Got, c.head) || s.Text != "abc" {
				t.Errorf("%v is answered by %+v", c.head, s)
			}
		}
	}
}

// What was said of a stream ahead of its answer is said no more; who answers has just one thing to say of it.
func TestEndAnswersAnew(t *testing.T) {
	e := mustBeGood(t, impl.EndNew(true), headOf(1, false, callHead("/echo", "ab")))
	s := &e.Streams[0]
	s.Head, s.Say, s.Begun, s.Said, s.Sent = callHead("/no", "0123"), "0123", true, true, 3
	got := mustBeGood(t, e, dataOf(1, true, "ab")).Streams[0]
	if got.Say != "ab" || got.Begun || got.Said || got.Sent != 0 || len(got.Head) != 2 {
		t.Errorf("%+v", got)
	}
}

// Promise 73.
func TestEndCallIsSaidLast(t *testing.T) {
	asked, whole := 0, 0
	for _, e := range callerEnds(t, 3) {
		if e.Bad {
			continue
		}
		e.Flow.Send = 31
		for at := range e.Streams {
			e.Streams[at].Flow.Send = 31
		}
		e, _ = mustSayAs(t, e)
		e.Flow.Send = len(e.Came) % 32
		for _, text := range []string{"", "e", "01234567", "012345678"} {
			then, id, _ := mustCallAs(t, e, "/echo", text)
			_, b := mustSayAs(t, then)
			frames, _ := frameList(b)
			if slices.ContainsFunc(e.Streams, func(s impl.Stream) bool { return s.State == 1 && !s.Said }) {
				continue
			}
			asked++
			n := min(len(text), 8, e.Flow.Send)
			_, body := wantHeadWrite(e.Out, callHead("/echo", text))
			want := []impl.Frame{{Kind: 1, Last: text == "", Stream: id, Body: body}}
			if n > 0 {
				want = append(want, impl.Frame{Last: n == len(text), Stream: id, Body: text[:n]})
				whole++
			}
			if !slices.Equal(frames, want) {
				t.Fatalf("%+v says %+v, not %+v", then, frames, want)
			}
		}
	}
	if asked < 100 || whole < 30 {
		t.Error(asked, whole)
	}
}

// Promise 75, of all, and of a stream.
func TestEndHearMore(t *testing.T) {
	for _, answers := range []bool{false, true} {
		for send := range 32 {
			for n := 1; n < 32; n++ {
				for _, state := range []int{1, 2, 3} {
					e := impl.EndNew(answers)
					e.Flow = impl.Flow{Send: send, Room: 5}
					e.Streams = []impl.Stream{{Id: 1, State: state, Flow: impl.Flow{Send: send, Room: 6}}, {Id: 3, State: 1, Flow: impl.Flow{Send: 7, Room: 7}}}
					for _, stream := range []int{0, 1} {
						got := mustHearAs(t, e, moreBytes(stream, n))
						want := copyEnd(e)
						flow := &want.Flow
						if stream == 1 {
							flow = &want.Streams[0].Flow
						}
						flow.Send, want.Bad = min(send+n, 31), send+n > 31
						mustBeEnd(t, "an end that may send more", got, want)
					}
				}
			}
		}
	}
}

// Frames of streams that there are none of are none, of all kinds but a head of a later one.
func TestEndHearOfNoStream(t *testing.T) {
	for _, answers := range []bool{false, true} {
		e := impl.EndNew(answers)
		e.Streams = []impl.Stream{newStream(1), newStream(3)}
		if answers {
			e.Streams[0].Id, e.Streams[1].Id = 1, 5
		}
		for _, id := range []int{3, 5, 7} {
			if slices.ContainsFunc(e.Streams, func(s impl.Stream) bool { return s.Id == id }) {
				continue
			}
			for _, b := range []string{dataOf(id, false, ""), dataOf(id, true, "e"), moreBytes(id, 1), resetOf(id)} {
				got := mustHearAs(t, e, b)
				want := copyEnd(e)
				want.Bad = true
				mustBeEnd(t, "an end that is bad", got, want)
			}
			if got := mustHearAs(t, e, headOf(id, false, callHead("/up", ""))); got.Bad != (!answers || id == 3) {
				t.Fatalf("a head of %d is heard as %+v", id, got)
			}
		}
	}
	for _, b := range []string{dataOf(1, false, ""), moreBytes(1, 1), resetOf(1)} {
		mustBeBad(t, impl.EndNew(false), b)
		mustBeBad(t, impl.EndNew(true), b)
	}
}

// Promise 76.
func TestEndHearReset(t *testing.T) {
	gone := 0
	for _, e := range manyEnds(t) {
		if e.Bad || len(e.Wait) > 40 || len(e.Streams) == 0 {
			continue
		}
		e.Came = ""
		for at, s := range e.Streams {
			got := mustHearAs(t, e, resetOf(s.Id))
			want := copyEnd(e)
			if !e.Answers {
				want.Bad = true
				mustBeEnd(t, "who calls", got, want)
				continue
			}
			want.Streams[at].State = impl.StreamGone
			mustBeEnd(t, "who answers", got, want)
			then, b := mustSayAs(t, got)
			mustSayNothingOf(t, got, b, s.Id)
			mustBeEnd(t, "one that is given up twice", mustBeGood(t, then, resetOf(s.Id)), then)
			gone++
		}
	}
	if gone < 100 {
		t.Errorf("just %d are gone", gone)
	}
}

// Promise 77.
func TestEndHearHeadsAndTexts(t *testing.T) {
	head, empty := callHead("/up", "abc"), wantFrameWrite(impl.Frame{Kind: 1, Stream: 1})
	a := impl.EndNew(true)
	one, last, fifth := headOf(1, false, head), headOf(1, true, head), headOf(5, false, head)
	for _, b := range []string{one + one, one + last, last + one, last + last, one + dataOf(1, true, "e") + one, one + dataOf(1, false, "e") + last} {
		mustBeBad(t, a, b)
	}
	for _, b := range []string{dataOf(1, false, "e"), dataOf(1, true, ""), fifth + dataOf(1, false, "e"), fifth + dataOf(7, false, "e")} {
		mustBeBad(t, a, b)
	}
	for _, b := range []string{last + dataOf(1, false, ""), last + dataOf(1, true, "e"), one + dataOf(1, true, "e") + dataOf(1, false, ""), one + dataOf(1, true, "") + dataOf(1, true, "")} {
		mustBeBad(t, a, b)
	}
	for _, id := range []int{1, 3, 5} {
		mustBeBad(t, a, fifth+headOf(id, false, head))
		mustBeBad(t, a, fifth+resetOf(5)+headOf(id, false, head))
	}
	for _, b := range []string{empty, one + headOf(3, true, head) + wantFrameWrite(impl.Frame{Kind: 1, Last: true, Stream: 5})} {
		mustBeBad(t, a, b)
	}
	mustBeGood(t, a, one+fifth+headOf(7, true, head)+dataOf(1, true, "e")+dataOf(5, true, ""))
	// Who calls hears heads of its own calls alone.
	c, _, _ := mustCallAs(t, impl.EndNew(false), "/up", "abc")
	answer := []impl.Field{{Name: ":status", Val: "0"}}
	mustBeBad(t, c, headOf(3, false, answer))
	mustBeBad(t, c, dataOf(1, false, "e"))
	mustBeBad(t, c, headOf(1, false, answer)+headOf(1, false, answer))
	mustBeBad(t, c, headOf(1, true, answer)+dataOf(1, true, ""))
	mustBeGood(t, c, headOf(1, false, answer)+dataOf(1, false, "e")+dataOf(1, true, "e"))
}

// A stream that was heard, but of which no head came, hears none.
func TestEndHearHeadWhenHeard(t *testing.T) {
	for _, answers := range []bool{false, true} {
		e := impl.EndNew(answers)
		e.Streams = []impl.Stream{newStream(1)}
		mustBeGood(t, e, headOf(1, false, callHead("/up", "")))
		e.Streams[0].Heard = true
		mustBeBad(t, e, headOf(1, false, callHead("/up", "")))
		mustBeBad(t, e, dataOf(1, false, ""))
	}
}

// headsThatAreNone is bytes that are no head by a table without fields, and the head of no field.
func headsThatAreNone() []string {
	return []string{"", "\x80", "\x87", "\xff", "\xff\x00", "\x00", "\x0f", "\x20", "\x3f", "\x40", "\x40\x00\x00", "\x41", "\x47\x00", "\x10\x00\x00", "\x10", "\x82\x84\x00", "\x41\x01E", "\x82\x82\x82\x82\x82\x82\x82", strings.Repeat("\x84", 200)}
}

// Of a head that is none the table stays as it was, and no head came; but the stream is there, if it is one that may come.
func TestEndHearNoHead(t *testing.T) {
	for _, body := range headsThatAreNone() {
		for _, last := range []bool{false, true} {
			b := wantFrameWrite(impl.Frame{Kind: 1, Last: last, Stream: 3, Body: body})
			want := impl.EndNew(true)
			want.Bad, want.Streams = true, []impl.Stream{newStream(3)}
			mustBeEnd(t, "who answers", mustHearAs(t, impl.EndNew(true), b), want)
			c := fourCalls(t).caller
			then := mustHearAs(t, c, b)
			c.Bad = true
			mustBeEnd(t, "who calls", then, c)
		}
	}
	// A second head, and one of no stream, are no head for the table either.
	e := mustBeGood(t, impl.EndNew(true), headOf(1, false, callHead("/up", "")))
	for _, id := range []int{1, 7} {
		b := wantFrameWrite(impl.Frame{Kind: 1, Stream: id, Body: "\x40\x01e\x00"})
		got := mustHearAs(t, e, b)
		if more := len(got.In.Fields) - len(e.In.Fields); got.Bad != (id == 1) || more != id/7 {
			t.Errorf("a head of %d is heard as %+v", id, got)
		}
	}
	mustBeEnd(t, "who calls nothing", mustHearAs(t, impl.EndNew(false), "\x04\x01\x00\x01\x40\x01e\x00"), impl.End{Out: impl.Table{Max: 64}, In: impl.Table{Max: 64}, Flow: impl.Flow{Send: 16, Room: 16}, Bad: true})
}

// Promise 78.
func TestEndHearWindow(t *testing.T) {
	const text = "01234567"
	for cut := range 9 {
		for second := cut; second <= 8; second++ {
			for _, id := range []int{1, 7} {
				e := mustBeGood(t, impl.EndNew(true), headOf(id, false, callHead("/echo", text)))
				e = mustBeGood(t, e, dataOf(id, false, text[:cut])+dataOf(id, false, text[cut:second])+dataOf(id, false, text[second:]))
				if s := e.Streams[0]; s.Text != text || s.Flow.Room != 0 || e.Flow.Room != 8 || s.Heard {
					t.Fatalf("a window is heard as %+v", e)
				}
				for _, last := range []bool{false, true} {
					got := mustHearAs(t, e, dataOf(id, last, "8"))
					want := copyEnd(e)
					want.Bad = true
					mustBeEnd(t, "one byte more", got, want)
					mustBeGood(t, e, dataOf(id, last, ""))
				}
			}
		}
	}
	e := mustBeGood(t, impl.EndNew(true), headOf(1, false, callHead("/echo", text)))
	mustBeBad(t, e, dataOf(1, true, text+"8"))
	mustBeGood(t, e, dataOf(1, true, text))
}

// Promise 78, of all streams: two windows of streams are that of all; of a third stream one byte more is none.
func TestEndHearWindowOfAll(t *testing.T) {
	head := callHead("/echo", "")
	e := mustBeGood(t, impl.EndNew(true), headOf(1, false, head)+headOf(3, false, head)+headOf(5, false, head)+dataOf(1, true, "01234567")+dataOf(3, false, "01234567"))
	if e.Flow.Room != 0 {
		t.Errorf("there is room as %+v", e)
	}
	mustBeGood(t, e, dataOf(5, true, ""))
	mustBeBad(t, e, dataOf(5, true, "e"))
}

// Windows as large as any: as much comes as there is room for, in words that are none it is bad.
func TestEndHearWords(t *testing.T) {
	e := mustBeGood(t, impl.EndNew(true), headOf(1, false, callHead("/echo", "")))
	e.Flow.Room, e.Streams[0].Flow.Room = 31, 31
	for size := range 40 {
		b := dataOf(1, false, strings.Repeat("e", size))
		if got := mustHearAs(t, e, b); got.Bad != (size > 16) {
			t.Fatalf("a text of %d is %+v", size, got)
		}
	}
	for _, room := range []impl.Flow{{Send: 31, Room: 4}, {Send: 4, Room: 31}} {
		e.Flow.Room, e.Streams[0].Flow.Room = room.Send, room.Room
		mustBeGood(t, e, dataOf(1, false, "0123"))
		mustBeBad(t, e, dataOf(1, false, "01234"))
	}
	e.Flow.Room, e.Streams[0].Flow.Room = 31, 31
	for _, w := range badWords() {
		if len(w) <= 200 {
			mustBeBad(t, e, dataOf(1, false, w))
			mustBeBad(t, mustBeGood(t, e, dataOf(1, false, "e")), dataOf(1, true, w))
		}
	}
	full := mustBeGood(t, e, dataOf(1, false, "0123456789abcdef"))
	mustBeBad(t, full, dataOf(1, false, "e"))
	mustBeGood(t, full, dataOf(1, true, ""))
}
