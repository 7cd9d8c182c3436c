package tests

import (
	"fmt"
	"math"
	"slices"
	"strings"
	"testing"

	"loop.example/lamson/impl"
)

// talk is two ends, and what is on its way, up and down.
type talk struct {
	caller, answerer impl.End
	up, down         string
}

// newTalk is two new ends.
func newTalk() *talk {
	return &talk{caller: impl.EndNew(false), answerer: impl.EndNew(true)}
}

// call begins a call.
func (k *talk) call(t *testing.T, path, text string) bool {
	t.Helper()
	e, _, ok := mustCallAs(t, k.caller, path, text)
	k.caller = e
	return ok
}

// leave gives a call up.
func (k *talk) leave(t *testing.T, id int) bool {
	t.Helper()
	e, ok := mustLeaveAs(t, k.caller, id)
	k.caller = e
	return ok
}

// write lets who calls say what it may.
func (k *talk) write(t *testing.T) {
	t.Helper()
	e, b := mustSayAs(t, k.caller)
	k.caller, k.up = e, k.up+b
}

// writeBack lets who answers say what it may.
func (k *talk) writeBack(t *testing.T) {
	t.Helper()
	e, b := mustSayAs(t, k.answerer)
	k.answerer, k.down = e, k.down+b
}

// pass lets the first bytes come up.
func (k *talk) pass(t *testing.T, n int) {
	t.Helper()
	n = min(n, len(k.up))
	k.answerer, k.up = mustHearAs(t, k.answerer, k.up[:n]), k.up[n:]
}

// passBack lets the first bytes come down.
func (k *talk) passBack(t *testing.T, n int) {
	t.Helper()
	n = min(n, len(k.down))
	k.caller, k.down = mustHearAs(t, k.caller, k.down[:n]), k.down[n:]
}

// passAll lets all bytes come, in pieces of a size, up and down in turn.
func (k *talk) passAll(t *testing.T, size int) {
	t.Helper()
	for k.up != "" || k.down != "" {
		k.pass(t, size)
		k.passBack(t, size)
	}
}

// round lets both say all that they may, and all of it come, in pieces of a size.
func (k *talk) round(t *testing.T, size int) {
	t.Helper()
	k.write(t)
	k.passAll(t, size)
	k.writeBack(t)
	k.passAll(t, size)
}

// step lets something happen, picked without any plan.
func (k *talk) step(t *testing.T, p *picker, store endStore) {
	t.Helper()
	switch p.of(12) {
	case 0, 1:
		k.call(t, pick(p, store.paths), pick(p, store.words))
	case 2:
		if p.is(3) {
			k.leave(t, p.of(9))
		}
	case 3, 4:
		if len(k.up) < 400 {
			k.write(t)
		}
	case 5, 6:
		if len(k.down) < 400 {
			k.writeBack(t)
		}
	case 7, 8, 9:
		k.pass(t, pick(p, []int{1, 2, 3, 4, 5, 9, 17, 50, 90}))
	default:
		k.passBack(t, pick(p, []int{1, 2, 3, 4, 5, 9, 17, 50, 90}))
	}
}

// eachTalk goes through talks without any plan, behind each step.
func eachTalk(t *testing.T, talks, steps int, do func(k *talk)) {
	t.Helper()
	store := newEndStore()
	for turn := range talks {
		k, p := newTalk(), &picker{seed: uint32(turn)}
		for range steps {
			k.step(t, p, store)
			do(k)
		}
	}
}

// manyEnds is ok ends of all kinds: new ones, some of talks, and some that were made by hand.
func manyEnds(t *testing.T) []impl.End {
	ends := []impl.End{impl.EndNew(false), impl.EndNew(true)}
	at := 0
	eachTalk(t, 20, 60, func(k *talk) {
		if at++; at%6 == 0 {
			ends = append(ends, k.caller, k.answerer)
		}
	})
	return append(ends, anyEnds(600)...)
}

// callerEnds is those of them that do not answer, with no more streams than so many.
func callerEnds(t *testing.T, most int) []impl.End {
	return slices.DeleteFunc(manyEnds(t), func(e impl.End) bool { return e.Answers || len(e.Streams) > most })
}

// frameList is the frames of bytes, and what is behind the last whole one.
func frameList(b string) ([]impl.Frame, string) {
	frames := []impl.Frame{}
	for {
		f, used, is := wantFrameRead(b)
		if is != 1 {
			return frames, b
		}
		frames, b = append(frames, f), b[used:]
	}
}

// mustBeFrames fails unless the bytes are just these frames.
func mustBeFrames(t *testing.T, b string, want ...impl.Frame) {
	t.Helper()
	if frames, rest := frameList(b); rest != "" || !slices.Equal(frames, want) {
		t.Fatalf("%x is %+v and %x, not %+v", b, frames, rest, want)
	}
}

// moreOf is how much more frames tell of, of a stream, or, of 0, of all.
func moreOf(frames []impl.Frame, stream int) int {
	sum := 0
	for _, f := range frames {
		if f.Kind == 8 && f.Stream == stream {
			sum += int(f.Body[0])
		}
	}
	return sum
}

// textOf is how long the texts of frames are, of a stream, or, of 0, of all.
func textOf(frames []impl.Frame, stream int) int {
	sum := 0
	for _, f := range frames {
		if f.Kind == 0 && (stream == 0 || f.Stream == stream) {
			sum += len(f.Body)
		}
	}
	return sum
}

// mustBeBad fails unless the end is bad by the bytes.
func mustBeBad(t *testing.T, e impl.End, b string) {
	t.Helper()
	if got := mustHearAs(t, e, b); !got.Bad {
		t.Fatalf("%+v is not bad by %x", e, b)
	}
}

// mustBeGood fails unless the end is not bad by the bytes; it answers the end behind.
func mustBeGood(t *testing.T, e impl.End, b string) impl.End {
	t.Helper()
	got := mustHearAs(t, e, b)
	if got.Bad {
		t.Fatalf("%+v is bad by %x", e, b)
	}
	return got
}

// headOf is the frame of a head, in bytes, by a table without fields.
func headOf(stream int, last bool, head []impl.Field) string {
	_, b := wantHeadWrite(impl.Table{Max: 64}, head)
	return wantFrameWrite(impl.Frame{Kind: 1, Last: last, Stream: stream, Body: b})
}

// dataOf is the frame of a text, in bytes.
func dataOf(stream int, last bool, text string) string {
	return wantFrameWrite(impl.Frame{Kind: 0, Last: last, Stream: stream, Body: text})
}

// moreBytes is the frame that tells of so much more, in bytes.
func moreBytes(stream, n int) string {
	return wantFrameWrite(moreFrame(stream, n))
}

// resetOf is the frame that gives a stream up, in bytes.
func resetOf(stream int) string {
	return wantFrameWrite(impl.Frame{Kind: 3, Stream: stream})
}

// One call, byte by byte, written out by hand.
func TestEndKnown(t *testing.T) {
	c, id, ok := impl.EndCall(impl.EndNew(false), "/up", "abcdefghij")
	if id != 1 || !ok {
		t.Fatal(c, id, ok)
	}
	a := impl.EndNew(true)
	for at, line := range []struct {
		up bool
		b  string
	}{
		{true, "\x0a\x01\x00\x01\x41\x03/up\x84\x45\x0210\x08\x00\x00\x01abcdefgh"},
		{false, "\x01\x08\x00\x00\x08\x01\x08\x00\x01\x08"},
		{true, "\x02\x00\x01\x01ij"},
		{false, "\x01\x08\x00\x00\x02\x01\x08\x00\x01\x02\x02\x01\x00\x01\x82\x84\x08\x00\x00\x01bcdefghi"},
		{true, "\x01\x08\x00\x00\x08\x01\x08\x00\x01\x08"},
		{false, "\x02\x00\x01\x01jk"},
		{true, "\x01\x08\x00\x00\x02\x01\x08\x00\x01\x02"},
		{false, ""},
		{true, ""},
	} {
		says, hears := &a, &c
		if line.up {
			says, hears = &c, &a
		}
		e, b := impl.EndWrite(*says)
		if b != line.b {
			t.Fatalf("at %d EndWrite(%+v) is %x, not %x", at, *says, b, line.b)
		}
		*says, *hears = e, impl.EndHear(*hears, b)
	}
	table := impl.Table{Fields: []impl.Field{{Name: "size", Val: "10"}, {Name: ":path", Val: "/up"}}, Max: 64}
	call, answer := callHead("/up", "abcdefghij"), []impl.Field{{Name: ":status", Val: "0"}, {Name: "kind", Val: "text"}}
	mustBeEnd(t, "who calls", c, impl.End{Out: table, In: impl.Table{Max: 64}, Flow: impl.Flow{Send: 16, Room: 16}, Streams: []impl.Stream{
		{Id: 1, State: impl.StreamDone, Head: call, Say: "abcdefghij", Begun: true, Said: true, Sent: 10, Got: answer, Text: "bcdefghijk", Heard: true, Flow: impl.Flow{Send: 8, Room: 8}},
	}})
	mustBeEnd(t, "who answers", a, impl.End{Answers: true, Out: impl.Table{Max: 64}, In: table, Flow: impl.Flow{Send: 16, Room: 16}, Streams: []impl.Stream{
		{Id: 1, State: impl.StreamDone, Head: answer, Say: "bcdefghijk", Begun: true, Said: true, Sent: 10, Got: call, Text: "abcdefghij", Heard: true, Flow: impl.Flow{Send: 8, Room: 8}},
	}})
	if impl.StreamOpen != 1 || impl.StreamDone != 2 || impl.StreamGone != 3 {
		t.Error("a number is another one")
	}
}

// The ends of the tests are ok, and of all kinds; what comes to them is heard, and is none.
func TestEndEdgesAreThere(t *testing.T) {
	seen := map[string]int{}
	note := func(what string, is bool) {
		if is {
			seen[what]++
		}
	}
	for _, e := range anyEnds(3000) {
		if !wantEndOk(e) {
			t.Fatalf("%+v is not ok", e)
		}
		note("answers", e.Answers)
		note("calls", !e.Answers)
		note("bad", e.Bad)
		for _, size := range []int{0, 40, 41, 60} {
			note(fmt.Sprint("waiting ", size), len(e.Wait) == size)
		}
		for _, size := range []int{0, 299, 300, 301, 599, 600} {
			note(fmt.Sprint("came ", size), len(e.Came) == size)
		}
		for size := range 5 {
			note(fmt.Sprint("streams ", size), len(e.Streams) == size)
		}
		note("top", e.Flow.Send == 31 && e.Flow.Room == 31)
		for _, s := range e.Streams {
			note("gone, of who calls", s.State == 3 && !e.Answers)
			note("to be said", s.State == 1 && len(s.Head) > 0 && !s.Said)
			note("too long a head", s.State == 1 && len(s.Head) == 6 && !s.Begun && sizeOf(s.Head) == 216)
			note("nothing to be said", s.Say == "" && s.State == 1 && !s.Begun && !s.Said && len(s.Head) > 0)
			note("all sent", s.Say != "" && s.State == 1 && s.Sent == len(s.Say) && !s.Said && len(s.Head) > 0)
			note("no head", len(s.Head) == 0 && s.State == 1 && !s.Begun)
			note("heard, without a head", len(s.Got) == 0 && s.Heard)
		}
	}
	for _, what := range []string{
		"answers", "calls", "bad", "waiting 0", "waiting 40", "waiting 41", "waiting 60", "came 0", "came 299", "came 300", "came 301", "came 599", "came 600",
		"streams 0", "streams 4", "top", "gone, of who calls", "to be said", "too long a head", "nothing to be said", "all sent", "no head", "heard, without a head",
	} {
		if seen[what] == 0 {
			t.Errorf("no end is of: %s", what)
		}
	}
}

// All functions, at all ends that were made by hand, against what the document says.
func TestEndMade(t *testing.T) {
	store, p := newEndStore(), &picker{seed: 7}
	good, bad := 0, 0
	for at, e := range anyEnds(2500) {
		if !impl.EndOk(e) {
			t.Fatalf("%+v is not ok", e)
		}
		mustCallAs(t, e, pick(p, store.paths), pick(p, store.words))
		mustLeaveAs(t, e, 1+2*(at%5))
		mustLeaveAs(t, e, at%9)
		mustSayAs(t, e)
		mustHearAs(t, e, "")
		for range 8 {
			b := store.bytes(p, e, 1+p.of(5))
			got := mustHearAs(t, e, b[:min(len(b), 400)])
			mustHearAs(t, e, b[:p.of(min(300, len(b))+1)])
			if got.Bad {
				bad++
			} else {
				good++
			}
		}
	}
	if good < 3000 || bad < 3000 {
		t.Errorf("%d are good, %d are bad", good, bad)
	}
}

// mustBeInTune fails unless both ends of a talk know of each other what they may.
func mustBeInTune(t *testing.T, k *talk) {
	t.Helper()
	if k.caller.Bad || k.answerer.Bad || !impl.EndOk(k.caller) || !impl.EndOk(k.answerer) {
		t.Fatalf("an end is bad, or not ok: %+v", k)
	}
	up, _ := frameList(k.answerer.Came + k.up)
	down, _ := frameList(k.caller.Came + k.down)
	mustBeWhole(t, "all, up", 16, k.caller.Flow, k.answerer.Flow, textOf(up, 0), moreOf(down, 0))
	mustBeWhole(t, "all, down", 16, k.answerer.Flow, k.caller.Flow, textOf(down, 0), moreOf(up, 0))
	if moreOf(k.answerer.Wait, 0) != 16-k.answerer.Flow.Room || moreOf(k.caller.Wait, 0) != 16-k.caller.Flow.Room {
		t.Fatalf("there lacks what does not wait to be told: %+v", k)
	}
	for _, a := range k.answerer.Streams {
		c := k.caller.Streams[a.Id/2]
		mustBeWhole(t, "one, up", 8, c.Flow, a.Flow, textOf(up, a.Id), moreOf(down, a.Id))
		mustBeWhole(t, "one, down", 8, a.Flow, c.Flow, textOf(down, a.Id), moreOf(up, a.Id))
		if !slices.Equal(a.Got, c.Head) || !strings.HasPrefix(c.Say, a.Text) {
			t.Fatalf("of %+v there came %+v", c, a)
		}
		_, answer := wantAnswer(c.Head[0].Val, c.Say)
		if !strings.HasPrefix(answer, c.Text) || c.State == 2 && (c.Text != answer || !c.Heard) {
			t.Fatalf("%+v is answered with %q, not %q", c, c.Text, answer)
		}
	}
}

// mustBeWhole fails if some of a window is lost.
func mustBeWhole(t *testing.T, what string, all int, says, hears impl.Flow, away, back int) {
	t.Helper()
	if says.Send+away+all-hears.Room+back != all {
		t.Fatalf("%s: %d may be sent, %d are away, there is room for %d, %d are on their way back", what, says.Send, away, hears.Room, back)
	}
}

// mustBeCalm fails unless all calls that were not given up are done, with their answers, and nothing is left.
func mustBeCalm(t *testing.T, k *talk) {
	t.Helper()
	if k.up+k.down+k.caller.Came+k.answerer.Came != "" || len(k.caller.Wait)+len(k.answerer.Wait) != 0 {
		t.Fatalf("something is left: %+v", k)
	}
	whole := impl.Flow{Send: 16, Room: 16}
	if k.caller.Flow != whole || k.answerer.Flow != whole {
		t.Fatalf("a window is not whole: %+v", k)
	}
	if !slices.Equal(k.caller.Out.Fields, k.answerer.In.Fields) || !slices.Equal(k.caller.In.Fields, k.answerer.Out.Fields) {
		t.Fatalf("the tables are not the same: %+v", k)
	}
	for _, s := range k.caller.Streams {
		status, answer := wantAnswer(s.Head[0].Val, s.Say)
		if s.State == 1 || s.State == 2 && (s.Text != answer || s.Got[0].Val != status || !s.Said || s.Flow != impl.Flow{Send: 8, Room: 8}) {
			t.Fatalf("%+v is not done with %q", s, answer)
		}
	}
}

// Talks between two ends, whatever happens in them, against what the document says; behind each all comes to its end.
func TestEndTalks(t *testing.T) {
	store := newEndStore()
	done, gone := 0, 0
	for turn := range 150 {
		k, p := newTalk(), &picker{seed: uint32(turn + 1000)}
		for range 60 {
			k.step(t, p, store)
			mustBeInTune(t, k)
		}
		for range 16 {
			k.round(t, 90)
			mustBeInTune(t, k)
		}
		mustBeCalm(t, k)
		for _, s := range k.caller.Streams {
			done, gone = done+s.State%3/2, gone+s.State/3
		}
	}
	if done < 200 || gone < 50 {
		t.Errorf("%d are done, %d are gone", done, gone)
	}
}

// fourCalls is a talk with as many calls as there may be, of all paths.
func fourCalls(t *testing.T) *talk {
	k := newTalk()
	k.call(t, "/up", "0123456789abcxyz")
	k.call(t, "/echo", "a-b:c/d")
	k.call(t, "/len", "0123456789abcdef")
	k.call(t, "/no", "")
	return k
}

// Promise 65, in a talk: pieces of every size come to the same.
func TestEndPiecesOfEverySize(t *testing.T) {
	whole := fourCalls(t)
	for range 12 {
		whole.round(t, 300)
	}
	mustBeCalm(t, whole)
	for size := 1; size <= 130; size++ {
		k := fourCalls(t)
		for range 12 {
			k.round(t, size)
		}
		mustBeEnd(t, fmt.Sprint("who calls, in pieces of ", size), k.caller, whole.caller)
		mustBeEnd(t, fmt.Sprint("who answers, in pieces of ", size), k.answerer, whole.answerer)
	}
}

// Promise 59.
func TestEndNew(t *testing.T) {
	for _, answers := range []bool{false, true} {
		e := impl.EndNew(answers)
		mustBeEnd(t, "a new end", e, impl.End{Answers: answers, Out: impl.Table{Max: 64}, In: impl.Table{Max: 64}, Flow: impl.Flow{Send: 16, Room: 16}})
		if !impl.EndOk(e) {
			t.Errorf("%+v is not ok", e)
		}
		then, b := mustSayAs(t, e)
		if b != "" {
			t.Errorf("a new end says %x", b)
		}
		mustBeEnd(t, "a new end that said nothing", then, e)
		mustBeEnd(t, "a new end that heard nothing", mustBeGood(t, e, ""), e)
		mustBeGood(t, e, moreBytes(0, 15))
	}
}

// Promise 60.
func TestEndCall(t *testing.T) {
	words := append(someWords(), newEndStore().paths...)
	for at, e := range callerEnds(t, 3) {
		for _, path := range []string{"/up", "", words[at%len(words)], words[(at*7)%len(words)]} {
			text := words[(at*5+len(path))%len(words)]
			got, id, ok := mustCallAs(t, e, path, text)
			last := len(e.Streams)
			if !ok || id != 2*last+1 || len(got.Streams) != last+1 || !impl.EndOk(got) {
				t.Fatalf("EndCall(%+v, %q, %q) is %+v, %d, %v", e, path, text, got, id, ok)
			}
			s := got.Streams[last]
			if !sameStream(s, impl.Stream{Id: id, State: impl.StreamOpen, Head: callHead(path, text), Say: text, Flow: impl.Flow{Send: 8, Room: 8}}) {
				t.Fatalf("EndCall of %q, %q is %+v", path, text, s)
			}
			got.Streams = got.Streams[:last]
			mustBeEnd(t, "all else", got, e)
		}
	}
}

// mustNotCall fails unless there is no such call, and the end is as it was.
func mustNotCall(t *testing.T, e impl.End, path, text string) {
	t.Helper()
	got, id, ok := impl.EndCall(e, path, text)
	if id != 0 || ok {
		t.Fatalf("EndCall(%+v, %q, %q) is %d, %v", e, path, text, id, ok)
	}
	mustBeEnd(t, "the end that calls nothing", got, e)
}

// Promise 60: who answers, too many, and what is no word.
func TestEndCallNone(t *testing.T) {
	bad := badWords()
	for at, e := range manyEnds(t) {
		if e.Answers || len(e.Streams) == 4 {
			mustNotCall(t, e, "/up", "abc")
			mustNotCall(t, e, "", "")
		}
		mustNotCall(t, e, bad[at%len(bad)], "abc")
		mustNotCall(t, e, "/up", bad[at%len(bad)])
	}
	for _, w := range bad {
		mustNotCall(t, impl.EndNew(false), w, "abc")
		mustNotCall(t, impl.EndNew(false), "/up", w)
		mustNotCall(t, impl.EndNew(false), w, w)
	}
}

// Promises 60 and 72: as many calls as there may be, of odd numbers, and one more.
func TestEndCallsInTurn(t *testing.T) {
	e := impl.EndNew(false)
	for at := range 4 {
		before := e
		then, id, ok := mustCallAs(t, e, "/echo", strings.Repeat("e", at*5))
		if !ok || id != []int{1, 3, 5, 7}[at] {
			t.Fatalf("call %d is %d, %v", at, id, ok)
		}
		e = then
		if !slices.EqualFunc(e.Streams[:at], before.Streams, sameStream) {
			t.Fatalf("%+v became %+v", before.Streams, e.Streams)
		}
	}
	mustNotCall(t, e, "/echo", "e")
	// One that is gone keeps its number.
	e, _ = mustLeaveAs(t, e, 7)
	mustNotCall(t, e, "/echo", "e")
}

// Promise 72, of all ends.
func TestEndCallTwo(t *testing.T) {
	for _, e := range callerEnds(t, 2) {
		one, first, _ := mustCallAs(t, e, "/up", "abc")
		two, second, ok := mustCallAs(t, one, "/len", "")
		last := len(one.Streams) - 1
		if !ok || second != first+2 || !sameStream(two.Streams[last], one.Streams[last]) {
			t.Fatalf("%+v is called as %d, then %d: %+v", e, first, second, two)
		}
	}
}

// idsThatAreNone is numbers that no stream has, and those that fewer bits would tell as one.
func idsThatAreNone() []int {
	return []int{-7, -3, -2, -1, 0, 2, 4, 6, 8, 9, 11, 255, 256, 257, 259, 1 << 32, 1<<32 + 1, math.MinInt, math.MinInt + 1, math.MaxInt}
}

// Promise 61.
func TestEndLeave(t *testing.T) {
	left, begun := 0, 0
	for _, e := range manyEnds(t) {
		for _, id := range append(idsThatAreNone(), 1, 3, 5, 7) {
			got, ok := mustLeaveAs(t, e, id)
			at := slices.IndexFunc(e.Streams, func(s impl.Stream) bool { return s.Id == id })
			if want := !e.Answers && at >= 0 && e.Streams[at].State == impl.StreamOpen; ok != want {
				t.Fatalf("EndLeave(%+v, %d) is %v", e, id, ok)
			}
			if !ok {
				mustBeEnd(t, "the end that leaves nothing", got, e)
				continue
			}
			left++
			if e.Streams[at].Begun {
				begun++
				last := len(got.Wait) - 1
				if got.Wait[last] != (impl.Frame{Kind: impl.FrameReset, Stream: id}) {
					t.Fatalf("%+v waits", got.Wait)
				}
				got.Wait = got.Wait[:last]
			}
			if got.Streams[at].State != impl.StreamGone {
				t.Fatalf("%+v is not gone", got.Streams[at])
			}
			got.Streams[at].State = impl.StreamOpen
			mustBeEnd(t, "all else", got, e)
		}
	}
	if begun < 50 || left < begun+50 {
		t.Errorf("%d are left, %d of them begun", left, begun)
	}
}

// With 60 frames that wait the chapter names no refusal: one more comes behind them, and the end is not ok then.
func TestEndLeaveWithAllWaiting(t *testing.T) {
	e, _, _ := impl.EndCall(impl.EndNew(false), "/up", "abc")
	e, _ = impl.EndWrite(e)
	for size := 58; size <= 60; size++ {
		e.Wait = slices.Repeat([]impl.Frame{moreFrame(0, 1)}, size)
		got, ok := mustLeaveAs(t, e, 1)
		if !ok || len(got.Wait) != size+1 || impl.EndOk(got) != (size < 60) {
			t.Errorf("with %d waiting: %v, %d, %v", size, ok, len(got.Wait), impl.EndOk(got))
		}
	}
}

// Promise 74.
func TestEndLeaveTwice(t *testing.T) {
	for _, e := range callerEnds(t, 4) {
		for _, id := range []int{1, 3, 5, 7} {
			gone, ok := mustLeaveAs(t, e, id)
			if !ok || !impl.EndOk(gone) {
				continue
			}
			again, ok := mustLeaveAs(t, gone, id)
			if ok {
				t.Fatalf("%+v is left twice", e)
			}
			mustBeEnd(t, "the end that leaves nothing", again, gone)
			if gone.Bad {
				continue
			}
			for range 3 {
				then, b := mustSayAs(t, gone)
				mustSayNothingOf(t, gone, b, id)
				gone = mustHearAs(t, then, moreBytes(0, 5))
				if gone.Bad {
					break
				}
			}
		}
	}
}

// mustSayNothingOf fails if bytes have a head, or text, of a stream, behind the frames that waited.
func mustSayNothingOf(t *testing.T, e impl.End, b string, id int) {
	t.Helper()
	frames, _ := frameList(b)
	for _, f := range frames[len(e.Wait):] {
		if f.Stream == id {
			t.Fatalf("%+v says %+v", e, f)
		}
	}
}

// Promise 62.
func TestEndWrite(t *testing.T) {
	said := 0
	for _, e := range manyEnds(t) {
		got, b := mustSayAs(t, e)
		if e.Bad {
			continue
		}
		frames, rest := frameList(b)
		if rest != "" || len(frames) < len(e.Wait) || !slices.Equal(frames[:len(e.Wait)], e.Wait) || len(got.Wait) > 0 {
			t.Fatalf("EndWrite(%+v) is %+v, %x", e, frames, rest)
		}
		frames = frames[len(e.Wait):]
		all := 0
		for at, s := range e.Streams {
			size := textOf(frames, s.Id)
			if size > s.Flow.Send || got.Streams[at].Flow.Send != s.Flow.Send-size || got.Streams[at].Sent != s.Sent+size {
				t.Fatalf("EndWrite(%+v) has %d of %d", e, size, s.Id)
			}
			all += size
		}
		if all > e.Flow.Send || got.Flow.Send != e.Flow.Send-all || all != textOf(frames, 0) || moreOf(frames, 0) != 0 {
			t.Fatalf("EndWrite(%+v) has %d", e, all)
		}
		said += all
	}
	if said < 300 {
		t.Errorf("just %d are said", said)
	}
}

// Promise 62: streams are said in their order, as long as all windows allow it.
func TestEndWriteInOrder(t *testing.T) {
	for all := range 32 {
		for one := range 32 {
			e := impl.EndNew(false)
			for range 4 {
				e, _, _ = impl.EndCall(e, "/echo", "0123456789abcdef")
			}
			left, want := all, []int{}
			e.Flow.Send = all
			for at := range e.Streams {
				e.Streams[at].Flow.Send = (one + at*9) % 32
				n := min(16, left, (one+at*9)%32)
				left, want = left-n, append(want, n)
			}
			got, b := mustSayAs(t, e)
			frames, _ := frameList(b)
			next := 0
			for at, n := range want {
				if frames[next].Kind != 1 || frames[next].Last || frames[next].Stream != 1+2*at {
					t.Fatalf("%+v are said of %+v", frames, e)
				}
				next++
				if n > 0 {
					if frames[next] != (impl.Frame{Last: n == 16, Stream: 1 + 2*at, Body: "0123456789abcdef"[:n]}) {
						t.Fatalf("%+v are said of %+v", frames, e)
					}
					next++
				}
				if got.Streams[at].Said != (n == 16) || got.Streams[at].State != 1 {
					t.Fatalf("%+v became %+v", e, got)
				}
			}
			if next != len(frames) || got.Flow.Send != left {
				t.Fatalf("%+v are said of %+v", frames, e)
			}
		}
	}
}

// Promise 63.
func TestEndWriteTwice(t *testing.T) {
	for _, e := range manyEnds(t) {
		once, _ := mustSayAs(t, e)
		twice, b := mustSayAs(t, once)
		if b != "" {
			t.Fatalf("%+v says %x, too", e, b)
		}
		mustBeEnd(t, "EndWrite behind EndWrite", twice, once)
	}
}

// Promise 64.
func TestEndWriteText(t *testing.T) {
	lasts := 0
	for _, e := range manyEnds(t) {
		got, b := mustSayAs(t, e)
		if e.Bad {
			continue
		}
		frames, _ := frameList(b)
		for at, s := range e.Streams {
			text, last := "", false
			for _, f := range frames[len(e.Wait):] {
				if f.Stream == s.Id && last {
					t.Fatalf("%+v says %+v behind the last", e, f)
				}
				if f.Stream == s.Id && f.Kind == 0 {
					text += f.Body
				}
				last = last || f.Stream == s.Id && f.Last
			}
			then := got.Streams[at]
			if !strings.HasPrefix(s.Say[s.Sent:], text) || then.Sent != s.Sent+len(text) || last && !then.Said {
				t.Fatalf("%+v says %q, and became %+v", s, text, then)
			}
			if text != "" && last != (s.Sent+len(text) == len(s.Say)) {
				t.Fatalf("%+v says %q, last: %v", s, text, last)
			}
			if last {
				lasts++
			}
		}
	}
	if lasts < 50 {
		t.Errorf("just %d are the last", lasts)
	}
}

// A text of no byte is said by its head alone, which is the last; so is its answer.
func TestEndNoText(t *testing.T) {
	k := newTalk()
	k.call(t, "/echo", "")
	k.write(t)
	mustBeFrames(t, k.up, impl.Frame{Kind: 1, Last: true, Stream: 1, Body: "\x41\x84\xda\x0a\xa0\x7f\x84\x45\x010"})
	if s := k.caller.Streams[0]; !s.Begun || !s.Said || s.Sent != 0 || s.State != impl.StreamOpen {
		t.Errorf("who calls has %+v", s)
	}
	k.pass(t, 300)
	if s := k.answerer.Streams[0]; !s.Heard || s.Begun || s.State != impl.StreamOpen || len(k.answerer.Wait) != 0 {
		t.Errorf("who answers has %+v", s)
	}
	k.writeBack(t)
	mustBeFrames(t, k.down, impl.Frame{Kind: 1, Last: true, Stream: 1, Body: "\x82\x84"})
	if s := k.answerer.Streams[0]; !s.Begun || !s.Said || s.State != impl.StreamDone {
		t.Errorf("who answers has %+v", s)
	}
	k.passBack(t, 300)
	if s := k.caller.Streams[0]; s.State != impl.StreamDone || !s.Heard || s.Text != "" || len(k.caller.Wait) != 0 {
		t.Errorf("who calls has %+v", s)
	}
}

// A frame of text of no byte is heard, tells of nothing more, and may be the last.
func TestEndHearNoText(t *testing.T) {
	for _, room := range []int{0, 1, 8} {
		a := mustBeGood(t, impl.EndNew(true), headOf(1, false, callHead("/up", "")))
		a.Flow.Room, a.Streams[0].Flow.Room = room, room
		a = mustBeGood(t, a, strings.Repeat(dataOf(1, false, ""), 5))
		if a.Streams[0].Heard || a.Streams[0].Text != "" || len(a.Wait) != 0 || a.Flow.Room != room {
			t.Fatalf("nothing is heard as %+v", a)
		}
		a = mustBeGood(t, a, dataOf(1, true, ""))
		if !a.Streams[0].Heard || len(a.Wait) != 0 || len(a.Streams[0].Head) != 2 {
			t.Fatalf("the last is heard as %+v", a)
		}
		mustBeBad(t, a, dataOf(1, false, ""))
	}
}

// With no window the head is said alone, and of the text as much as the lesser window allows.
func TestEndWriteWindows(t *testing.T) {
	for _, all := range []int{0, 1, 3, 8, 16, 31} {
		for _, one := range []int{0, 1, 3, 8, 16, 31} {
			e, _, _ := impl.EndCall(impl.EndNew(false), "/up", "0123456789abcdef")
			e.Flow.Send, e.Streams[0].Flow.Send = all, one
			then, b := mustSayAs(t, e)
			frames, _ := frameList(b)
			if n := min(all, one, 16); textOf(frames, 1) != n || len(frames) != 1+min(1, n) || frames[0].Last || then.Streams[0].Said != (n == 16) {
				t.Fatalf("with %d and %d: %+v", all, one, frames)
			}
		}
	}
}

// Promise 79.
func TestEndOkWithLess(t *testing.T) {
	swapped := 0
	for _, e := range manyEnds(t) {
		if !impl.EndOk(e) {
			t.Fatalf("%+v is not ok", e)
		}
		noWait, noCame, neither := e, e, e
		noWait.Wait, noCame.Came = nil, ""
		neither.Wait, neither.Came = nil, ""
		for _, other := range []impl.End{noWait, noCame, neither} {
			if !impl.EndOk(other) {
				t.Fatalf("%+v is not ok", other)
			}
		}
		for last := range e.Streams {
			less := e
			less.Streams = e.Streams[:last]
			if !impl.EndOk(less) {
				t.Fatalf("%+v is not ok", less)
			}
			for at := range last {
				other := copyEnd(e)
				other.Streams[at], other.Streams[last] = other.Streams[last], other.Streams[at]
				mustBeNoEnd(t, other)
				swapped++
			}
		}
	}
	if swapped < 500 {
		t.Error(swapped)
	}
}

// mustBeNoEnd fails unless an end is not ok, and all functions answer at it what the document says.
func mustBeNoEnd(t *testing.T, e impl.End) {
	t.Helper()
	if impl.EndOk(e) {
		t.Fatalf("%+v is ok", e)
	}
	called, id, is := impl.EndCall(e, "/up", "abc")
	left, ok := impl.EndLeave(e, 1)
	then, b := impl.EndWrite(e)
	if id != 0 || is || ok || b != "" {
		t.Fatalf("%+v is not ok, but answers %d, %v, %v, %x", e, id, is, ok, b)
	}
	for _, got := range []impl.End{called, left, then, impl.EndHear(e, ""), impl.EndHear(e, moreBytes(0, 1)), impl.EndHear(e, strings.Repeat("e", 301))} {
		mustBeEnd(t, "the answer of what is not ok", got, impl.End{})
	}
}

// changed is the end, with something of it changed.
func changed(e impl.End, change func(e *impl.End)) impl.End {
	e = copyEnd(e)
	change(&e)
	return e
}

// streamChanges is what makes a stream not ok, each in one way.
func streamChanges() []func(s *impl.Stream) {
	changes := []func(s *impl.Stream){
		func(s *impl.Stream) { s.Sent = -1 }, func(s *impl.Stream) { s.Sent = len(s.Say) + 1 }, func(s *impl.Stream) { s.Sent = math.MinInt }, func(s *impl.Stream) { s.Sent = math.MaxInt },
		func(s *impl.Stream) { s.Head = slices.Repeat(fixedFields[3:4], 7) }, func(s *impl.Stream) { s.Got = slices.Repeat(fixedFields[3:4], 7) },
		func(s *impl.Stream) { s.Head = slices.Repeat(fixedFields, 100) }, func(s *impl.Stream) { s.Got = slices.Repeat(fixedFields, 100) },
	}
	for _, id := range idsThatAreNone() {
		changes = append(changes, func(s *impl.Stream) { s.Id = id })
	}
	for _, state := range []int{-1, 0, 4, 5, 257, 258, 1<<32 + 1, math.MinInt, math.MaxInt} {
		changes = append(changes, func(s *impl.Stream) { s.State = state })
	}
	for at, f := range noFields() {
		head := with(fixedFields[2:5], f)[at%4]
		changes = append(changes, func(s *impl.Stream) { s.Head = head }, func(s *impl.Stream) { s.Got = head })
	}
	for at, w := range badWords() {
		if at%9 == 0 || at < 9 {
			changes = append(changes, func(s *impl.Stream) { s.Say = w }, func(s *impl.Stream) { s.Text = w })
		}
	}
	for at, flow := range noFlows() {
		if at%5 == 0 {
			changes = append(changes, func(s *impl.Stream) { s.Flow = flow })
		}
	}
	return changes
}

// endChanges is what makes an end with streams not ok, each in one way.
func endChanges() []func(e *impl.End) {
	changes := []func(e *impl.End){
		func(e *impl.End) { e.Came = strings.Repeat("\x00", 601) }, func(e *impl.End) { e.Came = strings.Repeat("e", 5000) },
		func(e *impl.End) { e.Wait = slices.Repeat([]impl.Frame{moreFrame(0, 1)}, 61) }, func(e *impl.End) { e.Wait = slices.Repeat([]impl.Frame{moreFrame(0, 1)}, 5000) },
		func(e *impl.End) { e.Streams = append(e.Streams, e.Streams[len(e.Streams)-1]) }, func(e *impl.End) { e.Streams = slices.Repeat(e.Streams, 2) },
		func(e *impl.End) { slices.Reverse(e.Streams) }, func(e *impl.End) { e.Streams = make([]impl.Stream, 1000) },
		func(e *impl.End) { e.Streams = append(e.Streams, newStream(7), newStream(9)) },
	}
	for at, table := range noTables() {
		if at%4 == 0 {
			changes = append(changes, func(e *impl.End) { e.Out = table }, func(e *impl.End) { e.In = table })
		}
	}
	for at, flow := range noFlows() {
		if at%5 == 0 {
			changes = append(changes, func(e *impl.End) { e.Flow = flow })
		}
	}
	for _, f := range framesNotOk() {
		for _, count := range []int{0, 1, 59} {
			changes = append(changes, func(e *impl.End) {
				e.Wait = append(slices.Repeat([]impl.Frame{moreFrame(0, 1)}, count), f)
			}, func(e *impl.End) {
				e.Wait = append([]impl.Frame{f}, slices.Repeat([]impl.Frame{moreFrame(0, 1)}, count)...)
			})
		}
	}
	return changes
}

// framesNotOk is frames that are not ok, each in one way.
func framesNotOk() []impl.Frame {
	frames := []impl.Frame{
		{}, {Kind: 0, Stream: 0, Body: "e"}, {Kind: 0, Stream: 2, Body: "e"}, {Kind: 1, Stream: 9, Body: "\x82"}, {Kind: 0, Stream: 1, Body: strings.Repeat("e", 201)},
		{Kind: 1, Stream: 1, Body: strings.Repeat("e", 201)}, {Kind: 3, Stream: 1, Body: "e"}, {Kind: 3, Stream: 1, Last: true}, {Kind: 3, Stream: 0}, {Kind: 2, Stream: 1}, {Kind: -1, Stream: 1}, {Kind: 256, Stream: 1},
		moreFrame(0, 0), moreFrame(0, 32), moreFrame(2, 1), moreFrame(9, 1), {Kind: 8, Stream: 1}, {Kind: 8, Stream: 1, Body: "\x01\x01"}, {Kind: 8, Stream: 1, Last: true, Body: "\x01"},
	}
	return frames
}

// Wrong inputs: ends that are not ok, in each way that there is.
func TestEndNotOk(t *testing.T) {
	bases := []impl.End{fourCalls(t).caller, fourCalls(t).caller}
	k := fourCalls(t)
	k.write(t)
	k.passAll(t, 90)
	bases = append(bases, k.caller, k.answerer)
	bases[1].Streams = bases[1].Streams[:2]
	for _, base := range bases {
		for _, change := range endChanges() {
			mustBeNoEnd(t, changed(base, change))
		}
		for at := range base.Streams {
			for _, change := range streamChanges() {
				mustBeNoEnd(t, changed(base, func(e *impl.End) { change(&e.Streams[at]) }))
			}
		}
	}
}

// Streams of who calls are 1, 3, 5 and so on; those of who answers may lack some.
func TestEndStreamIds(t *testing.T) {
	oks := map[bool]int{}
	for one := range 10 {
		for two := range 10 {
			for three := range 10 {
				for _, answers := range []bool{false, true} {
					e := impl.EndNew(answers)
					e.Streams = []impl.Stream{newStream(one), newStream(two), newStream(three)}
					want := one < two && two < three && three <= 7 && one%2*two%2*three%2 == 1
					want = want && (answers || three == 5)
					if impl.EndOk(e) != want {
						t.Fatalf("streams %d, %d, %d of who answers (%v) are %v", one, two, three, answers, !want)
					}
					if want {
						oks[answers]++
					} else {
						mustBeNoEnd(t, e)
					}
				}
			}
		}
	}
	if oks[false] != 1 || oks[true] != 4 {
		t.Error(oks)
	}
}

// A stream that is gone is heard on: its texts are made room for, its head stays in the table, and it is not done.
func TestEndGoneIsHeard(t *testing.T) {
	k := newTalk()
	k.call(t, "/echo", "0123456789ab")
	k.write(t)
	k.leave(t, 1)
	head := []impl.Field{{Name: ":status", Val: "5"}, {Name: "e", Val: "t"}}
	c := mustBeGood(t, k.caller, headOf(1, false, head)+dataOf(1, false, "0123")+dataOf(1, true, "4567"))
	s := c.Streams[0]
	if s.State != impl.StreamGone || !s.Heard || s.Text != "01234567" || !slices.Equal(s.Got, head) || s.Flow.Room != 0 || c.Flow.Room != 8 {
		t.Errorf("one that is gone is %+v", c)
	}
	if want := []impl.Field{head[1], head[0]}; !slices.Equal(c.In.Fields, want) {
		t.Errorf("the table has %v, not %v", c.In.Fields, want)
	}
	c, b := mustSayAs(t, c)
	mustBeFrames(t, b, impl.Frame{Kind: 3, Stream: 1}, moreFrame(0, 4), moreFrame(1, 4), moreFrame(0, 4), moreFrame(1, 4))
	if c.Flow.Room != 16 || c.Streams[0].Flow.Room != 8 {
		t.Errorf("the windows are %+v", c)
	}
	// A later head by that table is understood.
	c, _, _ = mustCallAs(t, c, "/up", "")
	c, _ = mustSayAs(t, c)
	if c = mustBeGood(t, c, "\x02\x01\x01\x03\x87\x88"); !slices.Equal(c.Streams[1].Got, []impl.Field{head[1], head[0]}) {
		t.Errorf("the later head is %v", c.Streams[1].Got)
	}
}

// Who answers keeps the head of a stream that is given up, hears on what was on its way, and says nothing of it, nor has its answer in the table.
func TestEndGoneIsNotAnswered(t *testing.T) {
	head := callHead("/echo", "0123")
	a := mustBeGood(t, impl.EndNew(true), headOf(1, false, head)+dataOf(1, false, "01")+resetOf(1)+dataOf(1, false, "2")+dataOf(1, true, "3"))
	s := a.Streams[0]
	if s.State != impl.StreamGone || !s.Heard || s.Text != "0123" || len(s.Head) != 0 || s.Say != "" || len(a.In.Fields) != 2 {
		t.Errorf("one that is gone is %+v", a)
	}
	a, b := mustSayAs(t, a)
	mustBeFrames(t, b, moreFrame(0, 2), moreFrame(1, 2), moreFrame(0, 1), moreFrame(1, 1), moreFrame(0, 1), moreFrame(1, 1))
	// The next head is by the table that has that of the one that is gone.
	a = mustBeGood(t, a, "\x03\x01\x01\x03\x88\x84\x87")
	if got := a.Streams[1].Got; !slices.Equal(got, head) || a.Streams[1].Text != "" {
		t.Errorf("the next head is %v", got)
	}
}

// Tables stay one, whether a call is given up ahead of its head, behind it, or amid its text or its answer.
func TestEndGoneTables(t *testing.T) {
	for steps := range 7 {
		for _, size := range []int{1, 3, 50} {
			k := newTalk()
			k.call(t, "/up", "0123456789abcdef")
			k.call(t, "/len", "01234")
			if steps%2 == 1 {
				k.write(t)
				k.pass(t, size*3)
			}
			for range steps / 2 {
				k.round(t, 90)
			}
			if steps >= 5 {
				k.writeBack(t)
			}
			left := k.leave(t, 1)
			k.call(t, "/up", "0123456789abcdef")
			k.call(t, "/no", "0123456789abcdef")
			for range 10 {
				k.round(t, size)
				mustBeInTune(t, k)
			}
			mustBeCalm(t, k)
			if state := k.caller.Streams[0].State; left != (state == impl.StreamGone) {
				t.Errorf("the first is %+v, left: %v", k.caller.Streams[0], left)
			}
			if begun := k.caller.Streams[0].Begun; len(k.answerer.Streams) != 3 && !begun || len(k.answerer.Streams) != 4 && begun {
				t.Errorf("who answers has %+v", k.answerer.Streams)
			}
		}
	}
}

// Windows are whole again behind texts of more than a window, in both ways, and calls at once.
func TestEndWindowsAreWholeAgain(t *testing.T) {
	k := fourCalls(t)
	for range 8 {
		k.round(t, 7)
	}
	mustBeCalm(t, k)
	whole := impl.Flow{Send: 8, Room: 8}
	for at := range 4 {
		if k.caller.Streams[at].Flow != whole || k.answerer.Streams[at].Flow != whole {
			t.Errorf("%+v, %+v", k.caller.Streams[at], k.answerer.Streams[at])
		}
	}
}

// A head that is too long for a frame, which no call or answer has, is no frame: nothing is said, but the stream is begun, and the table is that behind it.
func TestEndHeadTooLong(t *testing.T) {
	big := impl.Field{Name: strings.Repeat("-", 16), Val: strings.Repeat("z", 16)}
	for count := 1; count <= 6; count++ {
		e := impl.EndNew(false)
		e.Streams = []impl.Stream{newStream(1), newStream(3)}
		for at := range count {
			f := impl.Field{Name: big.Name, Val: big.Val[:15] + string(impl.WordSigns[at])}
			e.Streams[0].Head = append(e.Streams[0].Head, f)
		}
		e.Streams[0].Say, e.Streams[1].Head = "e", callHead("/up", "")
		then, b := mustSayAs(t, e)
		frames, _ := frameList(b)
		heads := len(slices.DeleteFunc(frames, func(f impl.Frame) bool { return f.Kind != 1 }))
		_, body := wantHeadWrite(e.Out, e.Streams[0].Head)
		if !then.Streams[0].Begun || !then.Streams[0].Said || len(body) > 200 && heads != 1 || len(body) <= 200 && heads != 2 {
			t.Errorf("a head of %d bytes is said as %+v", len(body), frames)
		}
	}
}
