package tests

import (
	"fmt"
	"slices"
	"strings"
	"testing"

	"loop.example/lamson/impl"
)

// streamOf is the stream of a number, and whether there is one.
func streamOf(e impl.End, id int) (impl.Stream, bool) {
	for _, s := range e.Streams {
		if s.Id == id {
			return s, true
		}
	}
	return impl.Stream{}, false
}

// pathOf is the path of a head; there is none in that of an answer.
func pathOf(head []impl.Field) string {
	for _, f := range head {
		if f.Name == ":path" {
			return f.Val
		}
	}
	return "none"
}

// answerOf is the head and the text with which a call is answered.
func answerOf(c impl.Stream) ([]impl.Field, string) {
	status, text := wantAnswer(pathOf(c.Head), c.Say)
	return []impl.Field{{Name: ":status", Val: status}, {Name: "kind", Val: "text"}}, text
}

// mustSayWhatIs fails unless neither side heard what is none, and of each call there came a beginning of its answer: promise 82.
func mustSayWhatIs(t *testing.T, w impl.World) {
	t.Helper()
	if w.Caller.Bad || w.Answerer.Bad {
		t.Fatalf("an end is bad: %+v", w)
	}
	for _, c := range w.Caller.Streams {
		head, text := answerOf(c)
		if len(c.Got) > 0 && !slices.Equal(c.Got, head) || !strings.HasPrefix(text, c.Text) {
			t.Fatalf("%+v is answered with %v and %q, not %v and %q", c, c.Got, c.Text, head, text)
		}
		if c.State == 2 && (len(c.Got) == 0 || c.Text != text) {
			t.Fatalf("%+v is done, but not with %v and %q", c, head, text)
		}
	}
}

// mustAnswerWhatCame fails unless each stream of who answers is one of who calls, and its answer that of all: promise 84.
func mustAnswerWhatCame(t *testing.T, w impl.World) {
	t.Helper()
	for _, a := range w.Answerer.Streams {
		c, is := streamOf(w.Caller, a.Id)
		if !is || !strings.HasPrefix(c.Say, a.Text) || pathOf(a.Got) != pathOf(c.Head) || pathOf(a.Got) == "none" {
			t.Fatalf("%+v is none of %+v", a, w.Caller.Streams)
		}
		head, text := answerOf(c)
		if a.Heard && (a.Text != c.Say || !slices.Equal(a.Head, head) || a.Say != text) {
			t.Fatalf("%+v was heard, but is not answered with %v and %q", a, head, text)
		}
		if !a.Heard && (len(a.Head) > 0 || a.Say != "" || a.Begun) {
			t.Fatalf("%+v is answered, but was not heard", a)
		}
	}
}

// mustKeepWindows fails unless nothing of the windows is lost, of all and of each stream that both have: promises 85 and 86.
func mustKeepWindows(t *testing.T, w impl.World) {
	t.Helper()
	up, down := impl.WorldFrames(w, 0), impl.WorldFrames(w, 1)
	mustBeWhole(t, "all, up", 16, w.Caller.Flow, w.Answerer.Flow, textOf(up, 0), moreOf(down, 0))
	mustBeWhole(t, "all, down", 16, w.Answerer.Flow, w.Caller.Flow, textOf(down, 0), moreOf(up, 0))
	for _, a := range w.Answerer.Streams {
		c, _ := streamOf(w.Caller, a.Id)
		mustBeWhole(t, "one, up", 8, c.Flow, a.Flow, textOf(up, a.Id), moreOf(down, a.Id))
		mustBeWhole(t, "one, down", 8, a.Flow, c.Flow, textOf(down, a.Id), moreOf(up, a.Id))
	}
	for _, e := range []impl.End{w.Caller, w.Answerer} {
		if moreOf(e.Wait, 0) != 16-e.Flow.Room {
			t.Fatalf("there is room for %d of all, but %+v wait to be told", e.Flow.Room, e.Wait)
		}
	}
}

// mustHaveOneTable fails unless, all having come, each side says by the table by which the other one hears: promise 87.
func mustHaveOneTable(t *testing.T, w impl.World) {
	t.Helper()
	for w.Up+w.Down != "" {
		w = impl.WorldDo(impl.WorldDo(w, passing(0, 90)), passing(1, 90))
	}
	up := slices.Equal(w.Caller.Out.Fields, w.Answerer.In.Fields) && w.Caller.Out.Max == w.Answerer.In.Max
	down := slices.Equal(w.Answerer.Out.Fields, w.Caller.In.Fields) && w.Answerer.Out.Max == w.Caller.In.Max
	if !up || !down || w.Caller.Bad || w.Answerer.Bad {
		t.Fatalf("the tables are not one: %+v", w)
	}
}

// mustBeInOrder fails unless of the frames on their way to an end at most one is a head of any stream, and the last one of a stream is the last: promise 93.
func mustBeInOrder(t *testing.T, frames []impl.Frame, says, hears impl.End) {
	t.Helper()
	for _, s := range says.Streams {
		own := slices.DeleteFunc(slices.Clone(frames), func(f impl.Frame) bool { return f.Stream != s.Id || f.Kind > 1 })
		h, _ := streamOf(hears, s.Id)
		for at, f := range own {
			if head := at == 0 && len(h.Got) == 0; (f.Kind == 1) != head {
				t.Fatalf("%d of %+v is a head, or none: %+v", at, own, h)
			}
			if last := at == len(own)-1 && s.Said; f.Last != last {
				t.Fatalf("%d of %+v is the last one, or not: %+v", at, own, s)
			}
		}
		if len(own) > 0 && h.Heard {
			t.Fatalf("%+v is on its way behind the last one", own)
		}
	}
}

// mustBeFramesInBytes fails unless what came and waits, and what is on its way, is just whole frames: promise 94.
func mustBeFramesInBytes(t *testing.T, w impl.World) {
	t.Helper()
	for way, b := range []string{w.Answerer.Came + w.Up, w.Caller.Came + w.Down} {
		out := ""
		for _, f := range impl.WorldFrames(w, way) {
			out += wantFrameWrite(f)
		}
		if out != b {
			t.Fatalf("on way %d frames are %x, but %x is on its way", way, out, b)
		}
	}
}

// mustCountCalls fails unless calls are 1, 3, 5 and so on, each open, done, or gone, and none is done that was not begun: promise 100.
func mustCountCalls(t *testing.T, w impl.World) {
	t.Helper()
	if len(w.Caller.Streams) > 4 || len(w.Answerer.Streams) > len(w.Caller.Streams) {
		t.Fatalf("there are too many calls: %+v", w)
	}
	for at, c := range w.Caller.Streams {
		if c.Id != 1+2*at || c.State < 1 || c.State > 3 || c.State == 2 && !c.Begun {
			t.Fatalf("there is no such call: %+v", c)
		}
	}
}

// mustSayAsMuchAsCame fails unless so much of each text was said as came, and is on its way: promise 101.
func mustSayAsMuchAsCame(t *testing.T, w impl.World) {
	t.Helper()
	up, down := impl.WorldFrames(w, 0), impl.WorldFrames(w, 1)
	for _, a := range w.Answerer.Streams {
		c, _ := streamOf(w.Caller, a.Id)
		if c.Sent != len(a.Text)+textOf(up, a.Id) || a.Sent != len(c.Text)+textOf(down, a.Id) {
			t.Fatalf("of %+v and %+v there is on its way %+v, %+v", c, a, up, down)
		}
	}
}

// mustHold fails unless a world behind events holds what is promised of it.
func mustHold(t *testing.T, w impl.World) {
	t.Helper()
	if !impl.WorldOk(w) {
		t.Fatalf("%+v is not ok", w)
	}
	mustSayWhatIs(t, w)
	mustAnswerWhatCame(t, w)
	mustKeepWindows(t, w)
	mustBeInOrder(t, impl.WorldFrames(w, 0), w.Caller, w.Answerer)
	mustBeInOrder(t, impl.WorldFrames(w, 1), w.Answerer, w.Caller)
	mustBeFramesInBytes(t, w)
	mustCountCalls(t, w)
	mustSayAsMuchAsCame(t, w)
}

// mustGrow fails unless all that came of each call did, and no call is less: promise 80.
func mustGrow(t *testing.T, w impl.World, then impl.World) {
	t.Helper()
	for side, ends := range [][2]impl.End{{w.Caller, then.Caller}, {w.Answerer, then.Answerer}} {
		if len(ends[1].Streams) < len(ends[0].Streams) {
			t.Fatalf("of side %d there are less calls: %+v", side, then)
		}
		for at, s := range ends[0].Streams {
			more := ends[1].Streams[at]
			if more.Id != s.Id || !strings.HasPrefix(more.Text, s.Text) || len(s.Got) > 0 && !slices.Equal(s.Got, more.Got) || s.Heard && !more.Heard || s.State != 1 && s.State != 3 && more.State == 1 {
				t.Fatalf("%+v became %+v", s, more)
			}
		}
	}
}

// One call, cut in pieces, with its bytes written out by hand.
func TestWorldKnown(t *testing.T) {
	w := impl.WorldNew()
	for at, line := range []struct {
		e                    impl.Event
		up, came, down, back string
		heard, text          string
		state                int
	}{
		{calling("/up", "abcdefghij"), "", "", "", "", "", "", 1},
		{saying(0), "\x0a\x01\x00\x01\x41\x03/up\x84\x45\x0210\x08\x00\x00\x01abcdefgh", "", "", "", "", "", 1},
		{passing(0, 3), "\x01\x41\x03/up\x84\x45\x0210\x08\x00\x00\x01abcdefgh", "\x0a\x01\x00", "", "", "", "", 1},
		{passing(0, 13), "\x00\x01abcdefgh", "\x08\x00", "", "", "", "", 1},
		{passing(0, 9), "h", "\x08\x00\x00\x01abcdefg", "", "", "", "", 1},
		{passing(0, 90), "", "", "", "", "abcdefgh", "", 1},
		{saying(0), "", "", "", "", "abcdefgh", "", 1},
		{saying(1), "", "", "\x01\x08\x00\x00\x08\x01\x08\x00\x01\x08", "", "abcdefgh", "", 1},
		{passing(1, 6), "", "", "\x08\x00\x01\x08", "\x01", "abcdefgh", "", 1},
		{saying(0), "", "", "\x08\x00\x01\x08", "\x01", "abcdefgh", "", 1},
		{passing(1, 4), "", "", "", "", "abcdefgh", "", 1},
		{saying(0), "\x02\x00\x01\x01ij", "", "", "", "abcdefgh", "", 1},
		{passing(0, 6), "", "", "", "", "abcdefghij", "", 1},
		{saying(1), "", "", "\x01\x08\x00\x00\x02\x01\x08\x00\x01\x02\x02\x01\x00\x01\x82\x84\x08\x00\x00\x01bcdefghi", "", "abcdefghij", "", 1},
		{passing(1, 90), "", "", "", "", "abcdefghij", "bcdefghi", 1},
		{saying(1), "", "", "", "", "abcdefghij", "bcdefghi", 1},
		{saying(0), "\x01\x08\x00\x00\x08\x01\x08\x00\x01\x08", "", "", "", "abcdefghij", "bcdefghi", 1},
		{passing(0, 10), "", "", "", "", "abcdefghij", "bcdefghi", 1},
		{saying(1), "", "", "\x02\x00\x01\x01jk", "", "abcdefghij", "bcdefghi", 1},
		{passing(1, 5), "", "", "k", "\x02\x00\x01\x01j", "abcdefghij", "bcdefghi", 1},
		{passing(1, 1), "", "", "", "", "abcdefghij", "bcdefghijk", 2},
		{leaving(1), "", "", "", "", "abcdefghij", "bcdefghijk", 2},
	} {
		w = impl.WorldDo(w, line.e)
		a, _ := streamOf(w.Answerer, 1)
		c, _ := streamOf(w.Caller, 1)
		got := []string{w.Up, w.Answerer.Came, w.Down, w.Caller.Came, a.Text, c.Text}
		if want := []string{line.up, line.came, line.down, line.back, line.heard, line.text}; !slices.Equal(got, want) || c.State != line.state {
			t.Fatalf("behind %d, %+v, there is %q, %d, not %q, %d", at, line.e, got, c.State, want, line.state)
		}
	}
	up := []impl.Frame{{Kind: 1, Stream: 1, Body: "\x41\x03/up\x84\x45\x0210"}, {Kind: 0, Stream: 1, Body: "abcdefgh"}}
	for _, cut := range []int{0, 1, 4, 9, 13} {
		w := worldAs(t, calling("/up", "abcdefghij"), saying(0))
		if w = impl.WorldDo(w, passing(0, cut)); !slices.Equal(impl.WorldFrames(w, 0), up) || len(impl.WorldFrames(w, 1)) != 0 {
			t.Errorf("cut at %d frames are %+v", cut, impl.WorldFrames(w, 0))
		}
	}
}

// What the constants are.
func TestWorldConstants(t *testing.T) {
	if impl.WireMax != 800 || impl.PassMax != 90 || impl.PlayMax != 60 || impl.CalmMax != 16 || impl.EvCall != 1 || impl.EvLeave != 2 || impl.EvWrite != 3 || impl.EvPass != 4 {
		t.Error("a number is another one")
	}
}

// A world at the beginning.
func TestWorldNew(t *testing.T) {
	w := impl.WorldNew()
	mustBeWorld(t, "WorldNew", w, wantWorldNew())
	mustBeEnd(t, "who calls", w.Caller, impl.EndNew(false))
	mustBeEnd(t, "who answers", w.Answerer, impl.EndNew(true))
	mustHold(t, w)
	mustBeWorld(t, "a calm", mustCalmAs(t, w, 16), w)
}

// Promises 80, 82 to 84, 93, 94, 100 and 101, and 85 and 86: behind each of the events.
func TestWorldPlays(t *testing.T) {
	t.Parallel()
	eachStep(manyPlays(), func(w impl.World, _ impl.Event, then impl.World) {
		mustHold(t, then)
		mustGrow(t, w, then)
	})
}

// Promise 87, behind each of the events.
func TestWorldTables(t *testing.T) {
	t.Parallel()
	kept := 0
	eachStep(fewPlays(2), func(_ impl.World, _ impl.Event, then impl.World) {
		mustHaveOneTable(t, then)
		kept += len(then.Caller.Out.Fields)
	})
	if kept < 1000 {
		t.Errorf("tables have just %d fields", kept)
	}
}

// Promise 80, of worlds that were made by hand, too. Not ok is just one by which there wait more frames than may.
func TestWorldDoOk(t *testing.T) {
	t.Parallel()
	ok := 0
	store, p := newEndStore(), &picker{seed: 80}
	for _, w := range manyWorlds() {
		for range 20 {
			e := store.event(p, []int{0, 1, 5, 30, 90})
			then := mustDoAs(t, w, e)
			mustGrow(t, w, then)
			switch {
			case impl.WorldOk(then):
				ok++
			case len(then.Caller.Wait) <= 60 && len(then.Answerer.Wait) <= 60:
				t.Fatalf("behind %+v %+v is not ok", e, then)
			}
		}
	}
	if ok < 5000 {
		t.Errorf("just %d are ok", ok)
	}
}

// All that happens, in worlds of all kinds, against what the document says.
func TestWorldDo(t *testing.T) {
	t.Parallel()
	for _, events := range fewPlays(2) {
		w := impl.WorldNew()
		for _, e := range events {
			w = mustDoAs(t, w, e)
		}
	}
	for _, w := range anyWorlds(800) {
		for side := range 2 {
			for _, e := range []impl.Event{calling("/up", "abc"), leaving(1 + 2*side), leaving(5 + 2*side), saying(side), passing(side, 0), passing(side, 5), passing(side, 89), passing(side, 90)} {
				mustDoAs(t, mustDoAs(t, w, e), e)
			}
		}
	}
}

// Promise 81.
func TestWorldPlay(t *testing.T) {
	t.Parallel()
	for at, events := range fewPlays(3) {
		events = events[:len(events)-at%4*(at%15)]
		w := impl.WorldNew()
		for _, e := range events {
			w = impl.WorldDo(w, e)
		}
		got, ok := mustPlayAs(t, events)
		if !ok {
			t.Fatalf("%d events are not played", len(events))
		}
		mustBeWorld(t, "WorldPlay", got, w)
	}
}

// isGone says whether the call of a number was given up.
func isGone(w impl.World, id int) bool {
	s, _ := streamOf(w.Caller, id)
	return s.State == 3
}

// mustComeToIt fails unless, behind a calm, each call that was not given up is done, with its answer, and nothing is left: promise 88.
func mustComeToIt(t *testing.T, w, calm impl.World) {
	t.Helper()
	mustHold(t, calm)
	if len(calm.Caller.Streams) != len(w.Caller.Streams) {
		t.Fatalf("of %+v there are other calls: %+v", w, calm)
	}
	for _, c := range calm.Caller.Streams {
		head, text := answerOf(c)
		if isGone(w, c.Id) != (c.State == 3) || c.State == 1 {
			t.Fatalf("%+v is not done, or not gone", c)
		}
		if c.State == 2 && (c.Text != text || !slices.Equal(c.Got, head) || !c.Said || !c.Heard) {
			t.Fatalf("%+v is not done with %q", c, text)
		}
	}
	if calm.Up+calm.Down+calm.Caller.Came+calm.Answerer.Came != "" || len(calm.Caller.Wait)+len(calm.Answerer.Wait) != 0 {
		t.Fatalf("something is left: %+v", calm)
	}
	for _, e := range []impl.End{calm.Caller, calm.Answerer} {
		if e.Flow != (impl.Flow{Send: 16, Room: 16}) {
			t.Fatalf("the window of all is %+v", e.Flow)
		}
		for _, s := range e.Streams {
			if s.Flow != (impl.Flow{Send: 8, Room: 8}) {
				t.Fatalf("the window of %+v is not whole", s)
			}
		}
	}
}

// Promises 88 and 89.
func TestWorldCalm(t *testing.T) {
	t.Parallel()
	done, gone := 0, 0
	for at, events := range fewPlays(2) {
		events = events[:len(events)-at%3*(at%20)]
		w, _ := impl.WorldPlay(events)
		calm := impl.WorldCalm(w, 16)
		mustComeToIt(t, w, calm)
		mustBeWorld(t, "a calm behind a calm", impl.WorldCalm(calm, 1+at%3), calm)
		for _, s := range calm.Caller.Streams {
			done, gone = done+s.State%3/2, gone+s.State/3
		}
	}
	if done < 1000 || gone < 250 {
		t.Errorf("%d are done, %d are gone", done, gone)
	}
}

// Promise 88, behind each of the events of some plays.
func TestWorldCalmAtEachPoint(t *testing.T) {
	t.Parallel()
	plays := [][]impl.Event{piecePlays()[14], cutPlays()[27], leavePlays()[100], leavePlays()[333]}
	eachStep(append(plays, anyPlays(3)...), func(_ impl.World, _ impl.Event, then impl.World) {
		mustComeToIt(t, then, impl.WorldCalm(then, 16))
	})
}

// Calms, whatever the world, against what the document says.
func TestWorldCalmAsTold(t *testing.T) {
	t.Parallel()
	for at, w := range append(anyWorlds(60), reached(311)...) {
		mustCalmAs(t, w, at%17)
	}
}

// A calm round is that of its events, one by one.
func TestWorldCalmRound(t *testing.T) {
	for _, w := range append(anyWorlds(60), reached(97)...) {
		want := w
		for side := range 2 {
			want = impl.WorldDo(want, saying(side))
			for range 12 {
				want = impl.WorldDo(want, passing(side, 90))
			}
		}
		mustBeWorld(t, "a calm round", impl.WorldCalm(w, 1), want)
	}
}

// Promise 90.
func TestWorldCalmInTwo(t *testing.T) {
	t.Parallel()
	worlds := []impl.World{worldAs(t, fourCallings()...)}
	for at, w := range append(reached(601), anyWorlds(9)...) {
		if at%3 == 0 {
			worlds = append(worlds, w)
		}
	}
	for at, w := range worlds {
		for all := 16; all >= 0; all -= 1 + at%5 {
			calm := impl.WorldCalm(w, all)
			for first := at % 2; first <= all; first += 1 + at%4 {
				mustBeWorld(t, fmt.Sprintf("a calm of %d and %d", first, all-first), impl.WorldCalm(impl.WorldCalm(w, first), all-first), calm)
			}
		}
	}
}

// Promise 91, in worlds of all kinds.
func TestWorldDoNothing(t *testing.T) {
	t.Parallel()
	wrong := wrongEvents()
	for at, w := range manyWorlds() {
		for next := at % 97; next < len(wrong); next += 97 {
			mustBeWorld(t, fmt.Sprintf("WorldDo of %+v", wrong[next]), impl.WorldDo(w, wrong[next]), w)
		}
		mustBeWorld(t, "a call too many", impl.WorldDo(worldWithAll(w), calling("/up", "abc")), worldWithAll(w))
		for id := 1; id <= 9; id += 2 {
			if s, is := streamOf(w.Caller, id); !is || s.State != 1 {
				mustBeWorld(t, "a call given up that is none, or not open", impl.WorldDo(w, leaving(id)), w)
			}
		}
	}
}

// worldWithAll is the world, with as many calls as there may be.
func worldWithAll(w impl.World) impl.World {
	w = copyWorld(w)
	for id := 1 + 2*len(w.Caller.Streams); id <= 7; id += 2 {
		w.Caller.Streams = append(w.Caller.Streams, newStream(id))
	}
	return w
}

// Promise 91, in plays: what can't be, in between, changes nothing of what becomes.
func TestWorldPlayWithWrongEvents(t *testing.T) {
	wrong := wrongEvents()
	for at, events := range fewPlays(5) {
		events = events[:30]
		want, _ := impl.WorldPlay(events)
		mixed := []impl.Event{}
		for turn, e := range events {
			mixed = append(mixed, wrong[(at*30+turn)%len(wrong)], e)
		}
		got, ok := impl.WorldPlay(mixed)
		if !ok {
			t.Fatal("it is not played")
		}
		mustBeWorld(t, "a play with wrong events", got, want)
	}
}

// Promise 92.
func TestWorldWithoutWriting(t *testing.T) {
	most := 0
	for _, events := range manyPlays() {
		events = slices.DeleteFunc(slices.Clone(events), func(e impl.Event) bool { return e.Kind == 3 })
		calls := []string{}
		for _, e := range events {
			if e.Kind == 1 && wantOk(e.Path) && wantOk(e.Text) && len(calls) < 4 {
				calls = append(calls, e.Path+" "+e.Text)
			}
		}
		w, _ := impl.WorldPlay(events)
		if w.Up+w.Down+w.Caller.Came+w.Answerer.Came != "" || len(impl.WorldFrames(w, 0))+len(impl.WorldFrames(w, 1)) > 0 {
			t.Fatalf("something is on its way: %+v", w)
		}
		mustBeEnd(t, "who answers", w.Answerer, impl.EndNew(true))
		said := []string{}
		for _, c := range w.Caller.Streams {
			if len(c.Got) > 0 || c.Text != "" || c.Begun || c.State == 2 {
				t.Fatalf("something came: %+v", c)
			}
			said = append(said, pathOf(c.Head)+" "+c.Say)
		}
		if !slices.Equal(said, calls) {
			t.Fatalf("calls are %q, not %q", said, calls)
		}
		most = max(most, len(said))
	}
	if most != 4 {
		t.Errorf("there are %d calls at most", most)
	}
}

// Promise 95.
func TestWorldFrames(t *testing.T) {
	some := [2]int{}
	for _, w := range append(manyWorlds(), anyWorlds(1500)...) {
		for way, b := range []string{w.Answerer.Came + w.Up, w.Caller.Came + w.Down} {
			frames := mustFrameAs(t, w, way)
			for _, want := range frames {
				f, used, is := impl.FrameRead(b)
				if is != 1 || f != want {
					t.Fatalf("%x is read as %+v, %d, not %+v", b, f, is, want)
				}
				b = b[used:]
			}
			if _, _, is := impl.FrameRead(b); is == 1 {
				t.Fatalf("behind %+v there is one more: %x", frames, b)
			}
			some[way] += len(frames)
		}
	}
	if some[0] < 3000 || some[1] < 3000 {
		t.Errorf("just %d frames are on their way", some)
	}
}

// Promise 96.
func TestWorldWrite(t *testing.T) {
	said, full := 0, 0
	for _, w := range append(manyWorlds(), anyWorlds(1500)...) {
		want := copyWorld(w)
		if then, b := impl.EndWrite(w.Caller); !w.Caller.Bad && len(w.Up+b) <= 800 {
			want.Caller, want.Up = then, w.Up+b
			said += len(b)
		} else if !w.Caller.Bad {
			full++
		}
		mustBeWorld(t, "who calls says", mustDoAs(t, w, saying(0)), want)
		want = copyWorld(w)
		if then, b := impl.EndWrite(w.Answerer); !w.Answerer.Bad && len(w.Down+b) <= 800 {
			want.Answerer, want.Down = then, w.Down+b
			said += len(b)
		} else if !w.Answerer.Bad {
			full++
		}
		mustBeWorld(t, "who answers says", mustDoAs(t, w, saying(1)), want)
	}
	if said < 10000 || full < 100 {
		t.Errorf("%d bytes are said, there is no room %d times", said, full)
	}
}

// Promise 97.
func TestWorldPass(t *testing.T) {
	t.Parallel()
	came := 0
	for _, w := range append(manyWorlds(), anyWorlds(300)...) {
		for _, n := range []int{0, 1, 2, 3, 4, 5, 17, 45, 89, 90} {
			want, up, down := copyWorld(w), min(n, len(w.Up)), min(n, len(w.Down))
			want.Answerer, want.Up = impl.EndHear(w.Answerer, w.Up[:up]), w.Up[up:]
			mustBeWorld(t, "bytes pass up", mustDoAs(t, w, passing(0, n)), want)
			want = copyWorld(w)
			want.Caller, want.Down = impl.EndHear(w.Caller, w.Down[:down]), w.Down[down:]
			mustBeWorld(t, "bytes pass down", mustDoAs(t, w, passing(1, n)), want)
			came += up + down
		}
	}
	if came < 10000 {
		t.Errorf("just %d bytes came", came)
	}
}

// eachCut goes through ways of worlds, and pieces that pass there one behind the other.
func eachCut(worlds []impl.World, do func(w impl.World, way, first, second int)) {
	for at, w := range worlds {
		for turn := range 40 {
			first := (at*7 + turn*turn) % 91
			do(w, turn%2, first, (at*11+turn*29)%(91-first))
		}
	}
}

// hearer is the end that hears what is on a way.
func hearer(w impl.World, way int) impl.End {
	return []impl.End{w.Answerer, w.Caller}[way]
}

// Promise 98.
func TestWorldPassInTwo(t *testing.T) {
	t.Parallel()
	cut := 0
	eachCut(reached(23), func(w impl.World, way, first, second int) {
		one, all := impl.WorldDo(w, passing(way, first)), impl.WorldDo(w, passing(way, first+second))
		mustBeWorld(t, fmt.Sprintf("%d bytes, and %d", first, second), impl.WorldDo(one, passing(way, second)), all)
		if hearer(one, way).Came != "" {
			cut++
		}
	})
	if cut < 1000 {
		t.Errorf("just %d are cut within a frame", cut)
	}
}

// Promise 98, of worlds that were made by hand, as far as the end hears what comes behind.
func TestWorldPassInTwoMadeByHand(t *testing.T) {
	t.Parallel()
	heard := 0
	eachCut(anyWorlds(500), func(w impl.World, way, first, second int) {
		one, all := impl.WorldDo(w, passing(way, first)), impl.WorldDo(w, passing(way, first+second))
		if hearer(all, way).Bad || len(hearer(one, way).Wait) > 40 || len(hearer(w, way).Came) > 200 {
			return
		}
		mustBeWorld(t, fmt.Sprintf("%d bytes, and %d", first, second), impl.WorldDo(one, passing(way, second)), all)
		heard++
	})
	if heard < 3000 {
		t.Errorf("just %d are heard", heard)
	}
}

// Promise 98, in plays: all that is on its way comes to the same, however it is cut.
func TestWorldPassInPieces(t *testing.T) {
	for at, w := range reached(29) {
		for way := range 2 {
			all := w
			for range 12 {
				all = impl.WorldDo(all, passing(way, 90))
			}
			pieces := w
			for turn := 0; pieces.Up != "" && way == 0 || pieces.Down != "" && way == 1; turn++ {
				pieces = impl.WorldDo(pieces, passing(way, 1+turn*(at%13)%90))
			}
			mustBeWorld(t, "all, in pieces", pieces, all)
		}
	}
}

// Promise 99.
func TestWorldLeave(t *testing.T) {
	t.Parallel()
	left := 0
	for _, w := range append(reached(71), worldAs(t, fourCallings()...)) {
		for _, c := range w.Caller.Streams {
			then := mustDoAs(t, w, leaving(c.Id))
			if c.State != 1 {
				mustBeWorld(t, "a call that is not open, given up", then, w)
				continue
			}
			left++
			if !isGone(then, c.Id) {
				t.Fatalf("%d is not gone: %+v", c.Id, then)
			}
			for _, other := range then.Caller.Streams {
				if was, _ := streamOf(w.Caller, other.Id); other.Id != c.Id && !sameStream(was, other) {
					t.Fatalf("%+v became %+v", was, other)
				}
			}
			calm := impl.WorldCalm(then, 16)
			mustComeToIt(t, then, calm)
			if !isGone(calm, c.Id) {
				t.Fatalf("behind a calm %d is not gone: %+v", c.Id, calm)
			}
		}
	}
	if left < 130 {
		t.Errorf("just %d are given up", left)
	}
}

// Promise 99: who answers a call that is given up says no more of it, if it hears of that.
func TestWorldLeaveIsHeard(t *testing.T) {
	w := worldAs(t, calling("/echo", "0123456789abcdef"), calling("/up", "abc"), saying(0), passing(0, 90), saying(1), passing(1, 90), saying(0), passing(0, 90), leaving(1))
	w = impl.WorldDo(impl.WorldDo(w, saying(0)), passing(0, 90))
	a, _ := streamOf(w.Answerer, 1)
	other, _ := streamOf(w.Answerer, 3)
	if a.State != 3 || !a.Heard || a.Begun || other.State == 3 {
		t.Fatalf("who answers has %+v and %+v", a, other)
	}
	calm := impl.WorldCalm(w, 16)
	c, _ := streamOf(calm.Caller, 1)
	other, _ = streamOf(calm.Caller, 3)
	if c.State != 3 || len(c.Got) > 0 || c.Text != "" || other.State != 2 || other.Text != "bcd" {
		t.Fatalf("who calls has %+v and %+v", c, other)
	}
	never := impl.WorldCalm(worldAs(t, calling("/up", "abc"), leaving(1), calling("/up", "yz")), 16)
	if len(never.Answerer.Streams) != 1 || never.Answerer.Streams[0].Id != 3 || never.Caller.Streams[1].Text != "zz" {
		t.Fatalf("of a call that was not begun there is %+v", never)
	}
}
