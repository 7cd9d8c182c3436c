package tests

import (
	"fmt"
	"slices"
	"strings"
	"testing"

	"loop.example/lamson/impl"
)

// This file has what the document says of worlds, worked out apart from the program, worlds of all kinds, and what may happen in them; the tests are in the other files of this layer.

// wantWorldNew is what the document says of a world at the beginning.
func wantWorldNew() impl.World {
	e := impl.End{Out: impl.Table{Max: 64}, In: impl.Table{Max: 64}, Flow: impl.Flow{Send: 16, Room: 16}}
	w := impl.World{Caller: e, Answerer: e}
	w.Answerer.Answers = true
	return w
}

// wantWorldOk is what the document says of worlds.
func wantWorldOk(w impl.World) bool {
	answer := []bool{w.Caller.Answers, w.Answerer.Answers}
	return wantEndOk(w.Caller) && wantEndOk(w.Answerer) && slices.Equal(answer, []bool{false, true}) && max(len(w.Up), len(w.Down)) < 801
}

// copyWorld is the world, with lists of its own.
func copyWorld(w impl.World) impl.World {
	w.Caller, w.Answerer = copyEnd(w.Caller), copyEnd(w.Answerer)
	return w
}

// wantWorldDo is what the document says of what happens.
func wantWorldDo(w impl.World, e impl.Event) impl.World {
	if !wantWorldOk(w) {
		return impl.World{}
	}
	w = copyWorld(w)
	switch [2]int{e.Kind, e.A} {
	case [2]int{3, 0}:
		wantSay(&w.Caller, &w.Up)
	case [2]int{3, 1}:
		wantSay(&w.Answerer, &w.Down)
	case [2]int{4, 0}:
		wantPass(&w.Up, &w.Answerer, e.B)
	case [2]int{4, 1}:
		wantPass(&w.Down, &w.Caller, e.B)
	}
	if e.Kind == 1 {
		if then, _, ok := wantEndCall(w.Caller, e.Path, e.Text); ok {
			w.Caller = then
		}
	}
	if e.Kind == 2 {
		if then, ok := wantEndLeave(w.Caller, e.A); ok {
			w.Caller = then
		}
	}
	return w
}

// wantSay is what the document says of a side that says what it may.
func wantSay(says *impl.End, wire *string) {
	if says.Bad {
		return
	}
	if then, b := wantEndWrite(*says); len(*wire+b) <= 800 {
		*says, *wire = then, *wire+b
	}
}

// wantPass is what the document says of bytes that pass.
func wantPass(wire *string, hears *impl.End, n int) {
	if n < 0 || n > 90 {
		return
	}
	n = min(n, len(*wire))
	*hears, *wire = wantEndHear(*hears, (*wire)[:n]), (*wire)[n:]
}

// wantWorldPlay is what the document says of what happens from the beginning on.
func wantWorldPlay(events []impl.Event) (impl.World, bool) {
	if len(events) > 60 {
		return impl.World{}, false
	}
	w := wantWorldNew()
	for _, e := range events {
		w = wantWorldDo(w, e)
	}
	return w, true
}

// wantWorldCalm is what the document says of calm rounds.
func wantWorldCalm(w impl.World, rounds int) impl.World {
	if !wantWorldOk(w) || rounds < 0 || rounds > 16 {
		return impl.World{}
	}
	for range rounds {
		for side := range 2 {
			w = wantWorldDo(w, impl.Event{Kind: 3, A: side})
			for range 12 {
				w = wantWorldDo(w, impl.Event{Kind: 4, A: side, B: 90})
			}
		}
	}
	return w
}

// wantWorldFrames is what the document says of frames on their way.
func wantWorldFrames(w impl.World, way int) []impl.Frame {
	if !wantWorldOk(w) || way != 0 && way != 1 {
		return nil
	}
	frames, _ := frameList([]string{w.Answerer.Came + w.Up, w.Caller.Came + w.Down}[way])
	return frames
}

// sameWorld says whether two worlds are the same.
func sameWorld(a, b impl.World) bool {
	return a.Up == b.Up && a.Down == b.Down && sameEnd(a.Caller, b.Caller) && sameEnd(a.Answerer, b.Answerer)
}

// mustBeWorld fails unless the world is this one.
func mustBeWorld(t *testing.T, what string, got, want impl.World) {
	t.Helper()
	if !sameWorld(got, want) {
		t.Fatalf("%s is\n%+v, not\n%+v", what, got, want)
	}
}

// mustDoAs fails unless WorldDo answers as the document says; it answers that.
func mustDoAs(t *testing.T, w impl.World, e impl.Event) impl.World {
	t.Helper()
	got, want := impl.WorldDo(w, e), wantWorldDo(w, e)
	if !sameWorld(got, want) {
		t.Fatalf("WorldDo(%+v, %+v) is\n%+v, not\n%+v", w, e, got, want)
	}
	return got
}

// mustPlayAs fails unless WorldPlay answers as the document says; it answers that.
func mustPlayAs(t *testing.T, events []impl.Event) (impl.World, bool) {
	t.Helper()
	got, ok := impl.WorldPlay(events)
	want, is := wantWorldPlay(events)
	if ok != is || !sameWorld(got, want) {
		t.Fatalf("WorldPlay(%+v) is\n%+v, %v, not\n%+v, %v", events, got, ok, want, is)
	}
	return got, ok
}

// mustCalmAs fails unless WorldCalm answers as the document says; it answers that.
func mustCalmAs(t *testing.T, w impl.World, rounds int) impl.World {
	t.Helper()
	got, want := impl.WorldCalm(w, rounds), wantWorldCalm(w, rounds)
	if !sameWorld(got, want) {
		t.Fatalf("WorldCalm(%+v, %d) is\n%+v, not\n%+v", w, rounds, got, want)
	}
	return got
}

// mustFrameAs fails unless WorldFrames answers as the document says; it answers that.
func mustFrameAs(t *testing.T, w impl.World, way int) []impl.Frame {
	t.Helper()
	got, want := impl.WorldFrames(w, way), wantWorldFrames(w, way)
	if !slices.Equal(got, want) {
		t.Fatalf("WorldFrames(%+v, %d) is\n%+v, not\n%+v", w, way, got, want)
	}
	return got
}

// calling, leaving, saying and passing are what happens, in the words of the document's table.
func calling(path, text string) impl.Event { return impl.Event{Kind: 1, Path: path, Text: text} }
func leaving(id int) impl.Event            { return impl.Event{Kind: 2, A: id} }
func saying(side int) impl.Event           { return impl.Event{Kind: 3, A: side} }
func passing(way, n int) impl.Event        { return impl.Event{Kind: 4, A: way, B: n} }

// fourCallings is as many calls as there may be, of all paths.
func fourCallings() []impl.Event {
	return []impl.Event{calling("/up", "0123456789abcxyz"), calling("/echo", "a-b:c/d"), calling("/len", "0123456789abcdef"), calling("/no", "")}
}

// turnOf is both sides saying all that they may, and so many pieces of a size coming.
func turnOf(size, count int) []impl.Event {
	events := []impl.Event{}
	for side := range 2 {
		events = append(events, saying(side))
		events = append(events, slices.Repeat([]impl.Event{passing(side, size)}, count)...)
	}
	return events
}

// playOf is events, and then turns, until there are as many as there may be.
func playOf(first []impl.Event, turn []impl.Event) []impl.Event {
	return slices.Concat(first, slices.Repeat(turn, 60))[:60]
}

// piecePlays is plays in which bytes come in pieces of one size, one play a size, few of them or many.
func piecePlays() [][]impl.Event {
	plays := [][]impl.Event{}
	for size := 1; size <= 90; size++ {
		plays = append(plays, playOf(fourCallings(), turnOf(size, 200/(size+10)+1)), playOf(fourCallings()[size%4:], turnOf(size, 2)))
	}
	return plays
}

// cutPlays is plays in which what is said first is cut at each of its places, and so is what is answered.
func cutPlays() [][]impl.Event {
	plays := [][]impl.Event{}
	for cut := range 60 {
		turn := []impl.Event{saying(0), passing(0, cut), passing(0, 90), saying(1), passing(1, cut), passing(1, 90)}
		plays = append(plays, playOf(fourCallings()[:1], turn), playOf(fourCallings()[cut%3:], turn))
	}
	return plays
}

// textPlays is plays of one call, of each path, with a text of each size, in pieces of some size.
func textPlays() [][]impl.Event {
	plays := [][]impl.Event{}
	for _, path := range []string{"/up", "/echo", "/len", "/no", ""} {
		for size := range 17 {
			plays = append(plays, playOf([]impl.Event{calling(path, "0a9z-bcyx/:mnklj"[:size])}, turnOf(pick(&picker{seed: uint32(size)}, []int{3, 9, 30}), 4)))
		}
	}
	return plays
}

// leavePlays is plays in which each call is given up at each point.
func leavePlays() [][]impl.Event {
	plays := [][]impl.Event{}
	for _, size := range []int{5, 13, 60} {
		base := playOf(fourCallings(), turnOf(size, 60/size))[:45]
		for at := range len(base) + 1 {
			for _, id := range []int{1, 3, 5, 7} {
				plays = append(plays, slices.Insert(slices.Clone(base), at, leaving(id)))
			}
			plays = append(plays, slices.Insert(slices.Clone(base), at, leaving(1), leaving(5), leaving(3)))
		}
	}
	return plays
}

// wrongEvents is events that can't be in any world.
func wrongEvents() []impl.Event {
	events := []impl.Event{}
	for _, kind := range []int{-4, -3, -1, 0, 5, 6, 8, 255, 256, 257, 258, 259, 260, 1<<32 + 3, 1<<32 + 4, -1 << 63, 1<<63 - 1} {
		events = append(events, impl.Event{Kind: kind, B: 5, Path: "/up", Text: "abc"}, impl.Event{Kind: kind, A: 1, B: 5, Path: "/up", Text: "abc"})
	}
	for _, side := range []int{-2, -1, 2, 3, 4, 255, 256, 257, 1 << 32, 1<<32 + 1, -1 << 63, 1<<63 - 1} {
		events = append(events, saying(side), passing(side, 1), passing(side, 90))
	}
	for _, n := range []int{-1, -2, -90, 91, 92, 255, 256, 257, 300, 301, 800, 1 << 32, 1<<32 + 1, -1 << 63, 1<<63 - 1} {
		events = append(events, passing(0, n), passing(1, n))
	}
	for _, id := range idsThatAreNone() {
		events = append(events, leaving(id))
	}
	for _, w := range badWords() {
		events = append(events, calling("/up", w), calling(w, "abc"), calling(w, w))
	}
	return events
}

// event picks what happens, most of it such as can be, in pieces of these sizes.
func (r endStore) event(p *picker, sizes []int) impl.Event {
	switch p.of(15) {
	case 0, 1:
		return calling(pick(p, r.paths), pick(p, r.words))
	case 2:
		return leaving(p.of(17))
	case 3, 4:
		return saying(0)
	case 5, 6:
		return saying(1)
	case 7:
		return pick(p, []impl.Event{{}, {Kind: 5}, saying(2), passing(2, 9), passing(0, 91), passing(1, -1), calling("A", ""), calling("", "A"), passing(0, 0), passing(1, 0)})
	}
	return passing(p.of(2), pick(p, sizes))
}

// anyPlays is so many plays without any plan.
func anyPlays(count int) [][]impl.Event {
	store, p := newEndStore(), &picker{seed: 22}
	sizes := [][]int{{1}, {1, 2, 3, 4}, {5, 9, 14, 20}, {1, 2, 3, 4, 5, 9, 17, 50, 90}, {30, 60, 90}, {90}}
	plays := [][]impl.Event{}
	for at := range count {
		events := []impl.Event{}
		for range 60 - at%7 {
			events = append(events, store.event(p, sizes[at%6]))
		}
		if at%2 == 0 {
			copy(events, fourCallings()[at%4:])
		}
		plays = append(plays, events)
	}
	return plays
}

// manyPlays is plays of all kinds.
func manyPlays() [][]impl.Event {
	return slices.Concat(piecePlays(), cutPlays(), textPlays(), leavePlays(), anyPlays(300))
}

// fewPlays is one in so many of them.
func fewPlays(in int) [][]impl.Event {
	plays := [][]impl.Event{}
	for at, events := range manyPlays() {
		if at%in == 0 {
			plays = append(plays, events)
		}
	}
	return plays
}

// eachStep goes through what happens in plays: the world ahead, what happens, and the world behind.
func eachStep(plays [][]impl.Event, do func(w impl.World, e impl.Event, then impl.World)) {
	for _, events := range plays {
		w := impl.WorldNew()
		for _, e := range events {
			then := impl.WorldDo(w, e)
			do(w, e, then)
			w = then
		}
	}
}

// reached is worlds in the midst of plays, one in so many.
func reached(in int) []impl.World {
	worlds := []impl.World{}
	at := 0
	eachStep(fewPlays(7), func(_ impl.World, _ impl.Event, then impl.World) {
		if at++; at%in == 0 {
			worlds = append(worlds, then)
		}
	})
	return worlds
}

// side picks an ok end that answers, or one that calls.
func (r endStore) side(p *picker, answers bool) impl.End {
	e := r.end(p)
	for e.Answers != answers {
		e = r.end(p)
	}
	return e
}

// wire picks bytes that are on their way to an end, as many as there may be once in a while.
func (r endStore) wire(p *picker, e impl.End) string {
	b := r.bytes(p, e, p.of(9))
	if p.is(6) {
		b += strings.Repeat("\x01\x08\x00\x00\x01", 160)
	}
	if p.is(9) {
		b = b[:min(len(b), 1+p.of(5))]
	}
	return b[:min(len(b), 800-pick(p, []int{0, 0, 1, 5, 20, 60}))]
}

// anyWorlds is so many ok worlds, made by hand.
func anyWorlds(count int) []impl.World {
	store, p := newEndStore(), &picker{seed: 23}
	worlds := []impl.World{}
	for range count {
		w := impl.World{Caller: store.side(p, false), Answerer: store.side(p, true)}
		w.Up, w.Down = store.wire(p, w.Answerer), store.wire(p, w.Caller)
		worlds = append(worlds, w)
	}
	return worlds
}

// manyWorlds is ok worlds of all kinds: a new one, some of plays, and some that were made by hand.
func manyWorlds() []impl.World {
	return slices.Concat([]impl.World{impl.WorldNew()}, reached(43), anyWorlds(500))
}

// worldAs is a world behind events, which are all that can be.
func worldAs(t *testing.T, events ...impl.Event) impl.World {
	t.Helper()
	w := impl.WorldNew()
	for _, e := range events {
		then := mustDoAs(t, w, e)
		if sameWorld(then, w) {
			t.Fatalf("%+v changes nothing in %+v", e, w)
		}
		w = then
	}
	return w
}

// The worlds of the tests are ok, and of all kinds, and so are the plays.
func TestWorldEdgesAreThere(t *testing.T) {
	t.Parallel()
	seen := map[string]int{}
	note := func(what string, is bool) {
		if is {
			seen[what]++
		}
	}
	for _, w := range anyWorlds(1500) {
		if !wantWorldOk(w) {
			t.Fatalf("%+v is not ok", w)
		}
		note("800 up", len(w.Up) == 800)
		note("800 down", len(w.Down) == 800)
		note("nothing up", w.Up == "")
		note("bad calls", w.Caller.Bad)
		note("bad answers", w.Answerer.Bad)
		note("much waits", len(w.Caller.Wait) > 40 && w.Down != "")
		note("much waits to be told back", len(w.Answerer.Wait) > 40 && w.Up != "")
	}
	eachStep(manyPlays(), func(w impl.World, e impl.Event, then impl.World) {
		for way, end := range []impl.End{then.Answerer, then.Caller} {
			note(fmt.Sprint("cut in the head, ", way), len(end.Came) > 0 && len(end.Came) < 4)
			note(fmt.Sprint("cut behind the head, ", way), len(end.Came) == 4)
			note(fmt.Sprint("cut in the body, ", way), len(end.Came) > 4)
			note(fmt.Sprint("all used up, ", way), end.Flow.Send == 0)
			note(fmt.Sprint("no room, ", way), end.Flow.Room == 0)
			for _, s := range end.Streams {
				note(fmt.Sprint("used up, ", way), s.Flow.Send == 0 && s.State == 1)
				note(fmt.Sprint("gone, half said, ", way), s.State == 3 && s.Sent > 0 && s.Sent < len(s.Say))
				note(fmt.Sprint("gone, all said, ", way), s.State == 3 && s.Said)
				note(fmt.Sprint("gone, not begun, ", way), s.State == 3 && !s.Begun)
				note(fmt.Sprint("gone, half heard, ", way), s.State == 3 && len(s.Got) > 0 && !s.Heard)
			}
		}
		note("a stream lacks", len(then.Answerer.Streams) > 0 && then.Answerer.Streams[0].Id > 1)
		note("all are done", len(then.Caller.Streams) == 4 && !slices.ContainsFunc(then.Caller.Streams, func(s impl.Stream) bool { return s.State != 2 }))
		note("nothing changes", sameWorld(w, then) && e.Kind == 1)
		note("it is left", e.Kind == 2 && !sameWorld(w, then))
	})
	for _, what := range []string{"800 up", "800 down", "nothing up", "bad calls", "bad answers", "much waits", "much waits to be told back", "a stream lacks", "all are done", "nothing changes", "it is left"} {
		if seen[what] < 5 {
			t.Errorf("just %d are of: %s", seen[what], what)
		}
	}
	for _, what := range []string{"cut in the head", "cut behind the head", "cut in the body", "all used up", "no room", "used up", "gone, half said", "gone, all said", "gone, not begun", "gone, half heard"} {
		for way := range 2 {
			if seen[fmt.Sprint(what, ", ", way)] < 5 {
				t.Errorf("just %d are of: %s, %d", seen[fmt.Sprint(what, ", ", way)], what, way)
			}
		}
	}
}
