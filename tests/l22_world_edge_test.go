package tests

import (
	"fmt"
	"math"
	"slices"
	"strings"
	"testing"

	"loop.example/lamson/impl"
)

// As many events as may be, and one more; whether they can be does not matter.
func TestWorldPlayMost(t *testing.T) {
	for _, e := range []impl.Event{{}, {Kind: 9}, calling("/up", "abc"), calling("A", ""), leaving(1), saying(0), saying(2), passing(0, 91), passing(1, 90)} {
		for _, count := range []int{0, 1, 59, 60, 61, 62, 120, 256, 316, 5000} {
			w, ok := mustPlayAs(t, slices.Repeat([]impl.Event{e}, count))
			if ok != (count <= 60) || ok != impl.WorldOk(w) {
				t.Fatalf("%d events are played: %v, %+v", count, ok, w)
			}
			if !ok {
				mustBeWorld(t, "a play of too many", w, impl.World{})
			}
		}
	}
	for _, events := range [][]impl.Event{nil, {}} {
		w, ok := impl.WorldPlay(events)
		if !ok {
			t.Error("no event is not played")
		}
		mustBeWorld(t, "a play of no event", w, impl.WorldNew())
	}
	// The last event that may be is played, too.
	play := append(slices.Repeat([]impl.Event{saying(1)}, 57), calling("/len", "abc"), saying(0), passing(0, 90))
	w, ok := mustPlayAs(t, play)
	if !ok || len(w.Answerer.Streams) != 1 || w.Answerer.Streams[0].Say != "3" {
		t.Errorf("the last event is played as %v, %+v", ok, w)
	}
}

// As many calm rounds as may be, and one more, and below 0.
func TestWorldCalmMost(t *testing.T) {
	for _, w := range []impl.World{impl.WorldNew(), worldAs(t, fourCallings()...), worldAs(t, calling("/up", "abc"), saying(0), passing(0, 7))} {
		mustBeWorld(t, "a calm of no round", mustCalmAs(t, w, 0), w)
		for rounds := range 17 {
			if !impl.WorldOk(mustCalmAs(t, w, rounds)) {
				t.Fatalf("a calm of %d is not ok", rounds)
			}
		}
		for _, rounds := range []int{-1, -2, -16, 17, 18, 32, 256, 257, 272, 1 << 32, 1<<32 + 1, math.MinInt, math.MaxInt} {
			mustBeWorld(t, fmt.Sprint("a calm of ", rounds), impl.WorldCalm(w, rounds), impl.World{})
		}
	}
}

// Calm rounds go by one by one: of a text that is longer than a window, one does not do.
func TestWorldCalmByRounds(t *testing.T) {
	w := worldAs(t, calling("/echo", "0123456789abcdef"))
	for rounds, want := range []struct {
		said, came int
		state      int
	}{{0, 0, 1}, {8, 0, 1}, {16, 8, 1}, {16, 16, 2}, {16, 16, 2}} {
		c, _ := streamOf(impl.WorldCalm(w, rounds).Caller, 1)
		if c.Sent != want.said || len(c.Text) != want.came || c.State != want.state {
			t.Errorf("behind %d rounds there is %+v", rounds, c)
		}
	}
	// All that may be on its way comes in a round, but that much is passed just so often.
	w = worldAs(t, calling("/up", "abc"))
	w.Up = strings.Repeat("\x01\x08\x00\x01\x01", 160)
	w.Answerer.Streams = []impl.Stream{newStream(1)}
	w.Answerer.Streams[0].Flow.Send = 0
	calm := mustCalmAs(t, w, 1)
	if calm.Up != "" || !calm.Answerer.Bad {
		t.Errorf("800 bytes are passed as %+v", calm)
	}
}

// Each of as many rounds as may be counts: of a window of one byte a byte a round is said, and told of again.
func TestWorldCalmByBytes(t *testing.T) {
	w := worldAs(t, calling("/echo", "0123456789abcdef"))
	w.Caller.Streams[0].Flow.Send = 1
	for rounds := range 17 {
		calm := mustCalmAs(t, w, rounds)
		if calm.Caller.Streams[0].Sent != rounds || rounds > 0 && calm.Answerer.Streams[0].Text != "0123456789abcdef"[:rounds] {
			t.Fatalf("behind %d rounds there is %+v", rounds, calm)
		}
	}
}

// fullWire is so many bytes of whole frames, which an end may hear.
func fullWire(size int) string {
	b := ""
	for len(b)+8 <= size {
		b += dataOf(1, false, "")
	}
	return b + dataOf(1, false, strings.Repeat("e", size-len(b)-4))
}

// As many bytes on their way as may be, and one more.
func TestWorldWireMost(t *testing.T) {
	for _, base := range []impl.World{impl.WorldNew(), worldAs(t, fourCallings()...), worldAs(t, calling("/up", "abcdefghij"), saying(0), passing(0, 90))} {
		for _, size := range []int{0, 1, 799, 800, 801, 802, 1600, 5000} {
			for way := range 2 {
				w := base
				if way == 0 {
					w.Up = strings.Repeat("\x01", size)
				} else {
					w.Down = strings.Repeat("\x01", size)
				}
				if impl.WorldOk(w) != (size <= 800) {
					t.Fatalf("with %d bytes on way %d it is ok: %v", size, way, size > 800)
				}
				if size > 800 {
					mustBeNoWorld(t, w)
				}
			}
		}
	}
}

// What is said is put on its way if it just fits, and not at all if it is a byte too much.
func TestWorldWriteMost(t *testing.T) {
	callers := worldAs(t, fourCallings()...)
	answers := worldAs(t, calling("/up", "abcdefghij"), saying(0), passing(0, 90))
	for side, w := range []impl.World{callers, answers} {
		said, b := impl.EndWrite([]impl.End{w.Caller, w.Answerer}[side])
		for size := 800 - len(b) - 3; size <= 800; size++ {
			w, want := copyWorld(w), impl.World{}
			wire := strings.Repeat("\x01", size)
			if side == 0 {
				w.Up = wire
				want = impl.World{Caller: said, Answerer: w.Answerer, Up: wire + b}
			} else {
				w.Down = wire
				want = impl.World{Caller: w.Caller, Answerer: said, Down: wire + b}
			}
			if size+len(b) > 800 {
				want = w
			}
			mustBeWorld(t, fmt.Sprintf("%d bytes behind %d", len(b), size), mustDoAs(t, w, saying(side)), want)
		}
	}
	// Of nothing to say there is room with all bytes that may be on their way.
	w := impl.WorldNew()
	w.Up, w.Down = fullWire(800), fullWire(800)
	w.Caller.Wait = []impl.Frame{{Kind: 3, Stream: 1}}
	mustBeWorld(t, "who answers says nothing", mustDoAs(t, w, saying(1)), w)
	mustBeWorld(t, "who calls says too much", mustDoAs(t, w, saying(0)), w)
	w.Up = fullWire(796)
	if then := mustDoAs(t, w, saying(0)); len(then.Up) != 800 || len(then.Caller.Wait) != 0 {
		t.Errorf("what waits is not said: %+v", then)
	}
}

// As many bytes at once as may pass, none, one more, and all that there are.
func TestWorldPassMost(t *testing.T) {
	calls := []impl.Event{}
	for _, path := range []string{"/up", "0123456789abcdef", "fedcba9876543210", "a-b:c/d:e/f-zyxw"} {
		calls = append(calls, calling(path, "0123456789abcdef"))
	}
	w := worldAs(t, append(calls, saying(0))...)
	if len(w.Up) < 96 {
		t.Fatalf("just %d bytes are on their way", len(w.Up))
	}
	for n := -3; n <= 95; n++ {
		then := mustDoAs(t, w, passing(0, n))
		if n < 0 || n > 90 {
			mustBeWorld(t, fmt.Sprintf("%d bytes", n), then, w)
		} else if then.Up != w.Up[n:] {
			t.Fatalf("behind %d bytes there is %x", n, then.Up)
		}
	}
	mustBeWorld(t, "no byte", impl.WorldDo(w, passing(0, 0)), w)
	for _, n := range []int{1, 5, 6, 7, 90} {
		few := worldAs(t, calling("/up", "abc"), saying(0), passing(0, 14))
		if len(few.Up) != 6 {
			t.Fatalf("%d bytes are on their way", len(few.Up))
		}
		if then := mustDoAs(t, few, passing(0, n)); len(then.Up) != max(0, 6-n) {
			t.Fatalf("behind %d bytes there is %x", n, then.Up)
		}
	}
	for way := range 2 {
		for n := range 91 {
			mustBeWorld(t, "nothing passes", impl.WorldDo(impl.WorldNew(), passing(way, n)), impl.WorldNew())
		}
	}
	// No byte passes to an end to which a whole frame came already, and that is heard then.
	w.Answerer.Came = headOf(1, true, callHead("/up", ""))
	if then := mustDoAs(t, w, passing(0, 0)); then.Answerer.Came != "" || len(then.Answerer.Streams) != 1 || then.Up != w.Up {
		t.Errorf("what came is not heard: %+v", then)
	}
}

// Four calls, and one more.
func TestWorldCallMost(t *testing.T) {
	w := impl.WorldNew()
	for at, e := range append(fourCallings(), fourCallings()...) {
		then := mustDoAs(t, w, e)
		if at >= 4 {
			mustBeWorld(t, "a call too many", then, w)
		}
		w = then
		if len(w.Caller.Streams) != min(at+1, 4) {
			t.Fatalf("behind %d calls there are %+v", at+1, w.Caller.Streams)
		}
	}
	// Those that are done, or gone, count as well.
	w = impl.WorldCalm(impl.WorldDo(w, leaving(3)), 16)
	mustBeWorld(t, "a call too many, behind a calm", mustDoAs(t, w, calling("/up", "abc")), w)
}

// A window that is used up, of one stream and of all, and told of again.
func TestWorldWindows(t *testing.T) {
	w := worldAs(t, calling("/echo", "0123456789abcdef"), saying(0))
	if w.Caller.Streams[0].Sent != 8 || w.Caller.Streams[0].Flow.Send != 0 || w.Caller.Flow.Send != 8 {
		t.Fatalf("a window is used up as %+v", w.Caller)
	}
	mustBeWorld(t, "nothing more is said", mustDoAs(t, w, saying(0)), w)
	w = impl.WorldDo(impl.WorldDo(w, passing(0, 90)), saying(1))
	mustBeWorld(t, "nothing more is said, unless that came", mustDoAs(t, w, saying(0)), w)
	w = impl.WorldDo(impl.WorldDo(w, passing(1, 90)), saying(0))
	if w.Caller.Streams[0].Sent != 16 || !w.Caller.Streams[0].Said || textOf(impl.WorldFrames(w, 0), 1) != 8 {
		t.Fatalf("a window is told of as %+v", w.Caller)
	}
	three := []impl.Event{calling("/up", "0123456789"), calling("/echo", "0123456789"), calling("/len", "0123456789"), saying(0)}
	w = worldAs(t, three...)
	sent := []int{}
	for _, c := range w.Caller.Streams {
		sent = append(sent, c.Sent)
	}
	if !slices.Equal(sent, []int{8, 8, 0}) || w.Caller.Flow.Send != 0 {
		t.Fatalf("the window of all is used up as %+v", w.Caller)
	}
	mustBeWorld(t, "nothing more is said of any", mustDoAs(t, w, saying(0)), w)
	// A call that is given up gives nothing of the window back by itself; that it is heard does.
	w = impl.WorldDo(w, leaving(1))
	if w.Caller.Flow.Send != 0 || w.Caller.Streams[0].Flow.Send != 0 {
		t.Fatalf("a call that is given up leaves %+v", w.Caller)
	}
	for _, e := range []impl.Event{passing(0, 90), saying(1), passing(1, 90)} {
		w = mustDoAs(t, w, e)
	}
	if w.Caller.Flow.Send != 16 || w.Caller.Streams[0].Flow.Send != 8 {
		t.Fatalf("what was heard leaves %+v", w.Caller)
	}
}

// Just Caller calls, and is given up by; just the number of a call tells which.
func TestWorldCallAndLeave(t *testing.T) {
	t.Parallel()
	for _, w := range manyWorlds() {
		for _, path := range []string{"/up", "", "/no", "0123456789abcdef"} {
			then := mustDoAs(t, w, impl.Event{Kind: 1, A: 1, B: 99, Path: path, Text: "abc"})
			mustBeEnd(t, "who answers", then.Answerer, w.Answerer)
			want, _, ok := impl.EndCall(w.Caller, path, "abc")
			if !ok {
				want = w.Caller
			}
			mustBeEnd(t, "who calls", then.Caller, want)
		}
		for id := -1; id <= 9; id++ {
			then := mustDoAs(t, w, impl.Event{Kind: 2, A: id, B: 1, Path: "/up", Text: "abc"})
			mustBeEnd(t, "who answers", then.Answerer, w.Answerer)
			want, ok := impl.EndLeave(w.Caller, id)
			if !ok {
				want = w.Caller
			}
			mustBeEnd(t, "who calls", then.Caller, want)
			if then.Up != w.Up || then.Down != w.Down {
				t.Fatalf("what is on its way became %x, %x", then.Up, then.Down)
			}
		}
	}
}

// What of an event its kind does not name does not count.
func TestWorldNeedlessParts(t *testing.T) {
	for _, w := range append(reached(301), anyWorlds(50)...) {
		for side := range 2 {
			mustBeWorld(t, "EvWrite", impl.WorldDo(w, impl.Event{Kind: 3, A: side, B: 91, Path: "A", Text: "A"}), impl.WorldDo(w, saying(side)))
			mustBeWorld(t, "EvPass", impl.WorldDo(w, impl.Event{Kind: 4, A: side, B: 7, Path: "A", Text: "A"}), impl.WorldDo(w, passing(side, 7)))
			mustBeWorld(t, "EvCall", impl.WorldDo(w, impl.Event{Kind: 1, A: 7 - side, B: -1, Path: "/up", Text: "e"}), impl.WorldDo(w, calling("/up", "e")))
			mustBeWorld(t, "EvLeave", impl.WorldDo(w, impl.Event{Kind: 2, A: 1 + 2*side, B: -1, Path: "A"}), impl.WorldDo(w, leaving(1+2*side)))
		}
	}
}

// A side that is bad says nothing; what passes to it is gone, and it stays as it was.
func TestWorldBad(t *testing.T) {
	for _, bytes := range []string{"\xff\xff\xff\xff", "\x00\x00\x02\x01", dataOf(1, false, "e"), resetOf(1)} {
		for way := range 2 {
			w := worldAs(t, calling("/up", "abcdefghij"), saying(0), passing(0, 90), saying(1), passing(1, 3), leaving(1))
			if way == 0 {
				w.Up = "\x00\x01\x00\x05" + bytes + strings.Repeat("e", 20)
			} else {
				w.Down = w.Down + bytes + strings.Repeat("e", 20)
			}
			then := mustDoAs(t, w, passing(way, 90))
			if !hearer(then, way).Bad || hearer(then, 1-way).Bad || !impl.WorldOk(then) {
				t.Fatalf("by %x it is %+v", bytes, then)
			}
			mustBeWorld(t, "a side that is bad says", impl.WorldDo(then, saying(1-way)), then)
			then.Up, then.Down = strings.Repeat("e", 100), strings.Repeat("e", 100)
			gone := mustDoAs(t, then, passing(way, 60))
			mustBeEnd(t, "a side that is bad", hearer(gone, way), hearer(then, way))
			if left := []string{gone.Up, gone.Down}; len(left[way]) != 40 || len(left[1-way]) != 100 {
				t.Fatalf("on their way are %q", left)
			}
		}
	}
}

// What passes to an end in which more frames wait than hear any more is gone, and not heard.
func TestWorldMuchWaits(t *testing.T) {
	for _, count := range []int{39, 40, 41, 60} {
		for way := range 2 {
			w := worldAs(t, calling("/up", "abc"))
			wait := slices.Repeat([]impl.Frame{moreFrame(0, 1)}, count)
			w.Caller.Wait, w.Answerer.Wait = wait, slices.Clone(wait)
			w.Up, w.Down = headOf(1, true, callHead("/up", "")), headOf(1, true, fixedFields[1:2])
			then := mustDoAs(t, w, passing(way, 90))
			heard := slices.ContainsFunc(hearer(then, way).Streams, func(s impl.Stream) bool { return len(s.Got) > 0 })
			if left := []string{then.Up, then.Down}; heard != (count <= 40) || left[way] != "" || left[1-way] == "" {
				t.Fatalf("with %d that wait it is %+v", count, then)
			}
		}
	}
}

// worldOfBytes is a world in which 40 frames wait at who answers, and so many texts of one byte are on their way to it, for each of which two more will.
func worldOfBytes(count int) impl.World {
	w := impl.WorldNew()
	w.Answerer.Flow.Room = 31
	w.Answerer.Streams = []impl.Stream{newStream(1)}
	w.Answerer.Streams[0].Flow.Room, w.Answerer.Streams[0].Got = 31, callHead("/up", "")
	w.Answerer.Wait = slices.Repeat([]impl.Frame{moreFrame(0, 1)}, 40)
	w.Up = strings.Repeat(dataOf(1, false, "e"), count)
	return w
}

// Worlds in which there wait more frames than may, behind an event, are as the event says, and not ok; all else answers nothing then.
func TestWorldTooMuchWaits(t *testing.T) {
	w := worldAs(t, calling("/up", "abc"), calling("/up", "abc"), saying(0))
	w.Caller.Wait = slices.Repeat([]impl.Frame{moreFrame(0, 1)}, 60)
	then := mustDoAs(t, w, leaving(1))
	if len(then.Caller.Wait) != 61 || then.Caller.Streams[0].State != 3 {
		t.Errorf("behind a call given up there is %+v", then)
	}
	mustBeNoWorld(t, then)
	w.Caller.Wait = w.Caller.Wait[:59]
	if !impl.WorldOk(mustDoAs(t, w, leaving(1))) || impl.WorldOk(mustDoAs(t, mustDoAs(t, w, leaving(1)), leaving(3))) {
		t.Error("60 may wait, and no more")
	}
	a := worldOfBytes(11)
	then = mustDoAs(t, a, passing(0, 55))
	if len(then.Answerer.Wait) != 62 {
		t.Errorf("behind texts there wait %+v", then.Answerer.Wait)
	}
	mustBeNoWorld(t, then)
	mustBeWorld(t, "a calm behind such", mustCalmAs(t, a, 1), wantWorldCalm(a, 1))
}

// A world that is not ok within a calm is nothing from there on.
func TestWorldCalmBecomesNothing(t *testing.T) {
	w := worldOfBytes(15)
	for rounds := 1; rounds <= 3; rounds++ {
		mustBeWorld(t, "a calm", mustCalmAs(t, w, rounds), impl.World{})
	}
	mustBeWorld(t, "a calm of no round", mustCalmAs(t, w, 0), w)
}

// mustBeNoWorld fails unless a world is not ok, and all functions answer nothing at it.
func mustBeNoWorld(t *testing.T, w impl.World) {
	t.Helper()
	if impl.WorldOk(w) {
		t.Fatalf("%+v is ok", w)
	}
	for _, e := range []impl.Event{{}, calling("/up", "abc"), calling("A", "abc"), leaving(1), leaving(0), saying(0), saying(1), saying(2), passing(0, 0), passing(0, 5), passing(1, 90), passing(1, 91)} {
		mustBeWorld(t, fmt.Sprintf("WorldDo of %+v, of what is not ok", e), impl.WorldDo(w, e), impl.World{})
	}
	for _, rounds := range []int{-1, 0, 1, 16, 17} {
		mustBeWorld(t, "WorldCalm of what is not ok", impl.WorldCalm(w, rounds), impl.World{})
	}
	for way := -1; way <= 2; way++ {
		if frames := impl.WorldFrames(w, way); len(frames) != 0 {
			t.Fatalf("of what is not ok frames are %+v", frames)
		}
	}
}

// Wrong inputs: worlds that are not ok, in each way that there is.
func TestWorldNotOk(t *testing.T) {
	base := worldAs(t, append(fourCallings(), saying(0), passing(0, 60), saying(1), passing(1, 7))...)
	if !impl.WorldOk(base) || len(base.Answerer.Streams) < 2 || base.Up == "" || base.Down == "" {
		t.Fatalf("the base is %+v", base)
	}
	mustBeNoWorld(t, impl.World{})
	for _, ends := range [][2]impl.End{{base.Answerer, base.Caller}, {base.Caller, base.Caller}, {base.Answerer, base.Answerer}, {impl.EndNew(true), impl.EndNew(false)}, {base.Caller, {}}, {{}, {}}} {
		mustBeNoWorld(t, impl.World{Caller: ends[0], Answerer: ends[1], Up: base.Up, Down: base.Down})
		mustBeNoWorld(t, impl.World{Caller: ends[0], Answerer: ends[1]})
	}
	if !impl.WorldOk(impl.World{Answerer: impl.End{Answers: true}}) {
		t.Error("two ends without windows and tables are not ok")
	}
	w := base
	for _, change := range endChanges() {
		w.Caller, w.Answerer = changed(base.Caller, change), base.Answerer
		mustBeNoWorld(t, w)
		w.Caller, w.Answerer = base.Caller, changed(base.Answerer, change)
		mustBeNoWorld(t, w)
	}
	for at, change := range streamChanges() {
		w.Caller, w.Answerer = changed(base.Caller, func(e *impl.End) { change(&e.Streams[at%4]) }), base.Answerer
		mustBeNoWorld(t, w)
		w.Caller, w.Answerer = base.Caller, changed(base.Answerer, func(e *impl.End) { change(&e.Streams[at%2]) })
		mustBeNoWorld(t, w)
	}
}

// Wrong inputs: ways that there are none of.
func TestWorldFramesOfNoWay(t *testing.T) {
	for _, w := range manyWorlds() {
		for _, way := range []int{-2, -1, 2, 3, 4, 255, 256, 257, 1 << 32, 1<<32 + 1, math.MinInt, math.MaxInt} {
			if frames := impl.WorldFrames(w, way); len(frames) != 0 {
				t.Fatalf("of way %d frames are %+v", way, frames)
			}
		}
	}
}

// Frames are told as far as bytes are some: up to what is cut, and to what is none, which is not skipped.
func TestWorldFramesAsFarAs(t *testing.T) {
	one, two := dataOf(1, false, "abc"), headOf(3, true, callHead("/up", ""))
	frames := []impl.Frame{{Kind: 0, Stream: 1, Body: "abc"}, {Kind: 1, Last: true, Stream: 3, Body: two[4:]}}
	for _, c := range []struct {
		came, wire string
		want       []impl.Frame
	}{
		{"", "", nil}, {"", one, frames[:1]}, {one, "", frames[:1]}, {"", one + two, frames}, {one, two, frames}, {one + two, "", frames},
		{one + two[:3], two[3:], frames}, {one[:5], one[5:] + two[:len(two)-1], frames[:1]}, {one[:2], one[2:3], nil}, {one[:1], "", nil},
		{one, "\x00\x00\x02\x01" + two, frames[:1]}, {"\xc9\x00\x00\x01", one, nil}, {"\xc9", "\x00\x00\x01" + one, nil}, {one + two, "\x00\x03\x00\x02" + one, frames},
		{"\x05\x00\x00\x01", one, []impl.Frame{{Stream: 1, Body: "\x03\x00\x00\x01a"}}}, {one, one[:6] + two, []impl.Frame{frames[0], {Kind: 0, Stream: 1, Body: "ab" + two[:1]}}},
	} {
		up, down := impl.WorldNew(), impl.WorldNew()
		up.Answerer.Came, up.Up, down.Caller.Came, down.Down = c.came, c.wire, c.came, c.wire
		up.Down, down.Up = one+one, one+one
		if got, back := mustFrameAs(t, up, 0), mustFrameAs(t, down, 1); !slices.Equal(got, c.want) || !slices.Equal(back, c.want) {
			t.Errorf("of %x and %x frames are %+v, %+v, not %+v", c.came, c.wire, got, back, c.want)
		}
	}
	w := impl.WorldNew()
	w.Answerer.Came, w.Up = strings.Repeat(dataOf(1, false, ""), 150), strings.Repeat(dataOf(1, false, ""), 200)
	if frames := impl.WorldFrames(w, 0); len(frames) != 350 {
		t.Errorf("%d frames are told", len(frames))
	}
}
