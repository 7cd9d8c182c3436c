package tests

import (
	"fmt"
	"slices"
	"strings"
	"sync"
	"testing"
	"unsafe"

	"loop.example/lamson/impl"
)

// wordPiece is the memory of a text.
func wordPiece(w string) piece {
	from := uintptr(unsafe.Pointer(unsafe.StringData(w)))
	return piece{from, from + uintptr(len(w)), w}
}

// worldLists is the memory of all lists of a world.
func worldLists(w impl.World) []piece {
	return append(listPieces(w.Caller), listPieces(w.Answerer)...)
}

// worldTexts is the memory of all texts of a world.
func worldTexts(w impl.World) []piece {
	return append(append(textPieces(w.Caller), textPieces(w.Answerer)...), wordPiece(w.Up), wordPiece(w.Down))
}

// ownTexts is those of the texts of a world that an answer must have made.
func ownTexts(w impl.World) []piece {
	return slices.DeleteFunc(worldTexts(w), func(p piece) bool { return !isOwn(p) })
}

// spareWorld is the world, its lists and texts in memory of their own, with spare room in which something stands.
func spareWorld(w impl.World) impl.World {
	return impl.World{Caller: spareEnd(w.Caller), Answerer: spareEnd(w.Answerer), Up: strings.Clone(w.Up), Down: strings.Clone(w.Down)}
}

// mustBeWorldAsGiven fails unless a world that was given is as it was, with what stood behind its lists.
func mustBeWorldAsGiven(t *testing.T, what string, given, before impl.World) {
	t.Helper()
	mustBeAsGiven(t, what, given.Caller, before.Caller)
	mustBeAsGiven(t, what, given.Answerer, before.Answerer)
	mustBeWorld(t, what+": what was given", given, before)
}

// mustAnswerWorldApart fails unless what a function answers of a world is in memory of its own, twice, and leaves what was given.
func mustAnswerWorldApart(t *testing.T, what string, w impl.World, asked []piece, call func(w impl.World) impl.World) {
	t.Helper()
	given := spareWorld(w)
	one, two := call(given), call(given)
	mustBeWorldAsGiven(t, what, given, w)
	mustBeWorld(t, what+", twice", two, one)
	mustBeApartAmong(t, what+", the answer alone", worldLists(one))
	mustBeApartAmong(t, what+", the texts of the answer alone", ownTexts(one))
	mustBeApart(t, what+", the answer and what was given", worldLists(one), worldLists(given))
	mustBeApart(t, what+", two answers", worldLists(one), worldLists(two))
	mustBeApart(t, what+", texts of the answer and of what was given", worldTexts(one), append(worldTexts(given), asked...))
	mustBeApart(t, what+", texts of two answers", ownTexts(one), ownTexts(two))
}

// ownEvent is the event, its texts in memory of their own, and that.
func ownEvent(e impl.Event) (impl.Event, []piece) {
	e.Path, e.Text = strings.Clone(e.Path), strings.Clone(e.Text)
	return e, []piece{wordPiece(e.Path), wordPiece(e.Text)}
}

// What WorldDo answers shares nothing with what was given, nor with another part of the answer; what was given is left as it was, and what is behind it.
func TestWorldDoMemory(t *testing.T) {
	t.Parallel()
	for _, w := range slices.Concat([]impl.World{impl.WorldNew()}, reached(173), anyWorlds(200)) {
		for _, e := range []impl.Event{calling("/up", "abcdefgh"), calling("a-path", "0123456789"), calling("A", "abc"), leaving(1), leaving(3), leaving(2), saying(0), saying(1), saying(2), passing(0, 0), passing(0, 7), passing(1, 7), passing(0, 90), passing(1, 90), passing(1, 91), {}} {
			e, asked := ownEvent(e)
			mustAnswerWorldApart(t, fmt.Sprintf("WorldDo of %+v", e), w, asked, func(w impl.World) impl.World { return impl.WorldDo(w, e) })
		}
	}
}

// So it is with WorldCalm, and what just asks a world leaves it.
func TestWorldCalmMemory(t *testing.T) {
	t.Parallel()
	for at, w := range slices.Concat([]impl.World{impl.WorldNew()}, reached(397), anyWorlds(60)) {
		for _, rounds := range []int{0, 1, 2 + at%15, 17} {
			mustAnswerWorldApart(t, fmt.Sprint("WorldCalm of ", rounds), w, nil, func(w impl.World) impl.World { return impl.WorldCalm(w, rounds) })
		}
		given := spareWorld(w)
		impl.WorldOk(given)
		mustBeWorldAsGiven(t, "WorldOk", given, w)
	}
}

// So it is with WorldFrames.
func TestWorldFramesMemory(t *testing.T) {
	some := 0
	for _, w := range manyWorlds() {
		for way := -1; way <= 2; way++ {
			given := spareWorld(w)
			one, two := impl.WorldFrames(given, way), impl.WorldFrames(given, way)
			mustBeWorldAsGiven(t, "WorldFrames", given, w)
			if !slices.Equal(one, two) {
				t.Fatalf("WorldFrames is %+v, then %+v", one, two)
			}
			lists := []piece{listPiece("one", one)}
			mustBeApart(t, "two answers", lists, []piece{listPiece("two", two)})
			mustBeApart(t, "the answer and what was given", lists, worldLists(given))
			bodies := []piece{}
			for _, f := range one {
				bodies = append(bodies, wordPiece(f.Body))
			}
			mustBeApart(t, "bodies and what was given", bodies, worldTexts(given))
			mustBeApartAmong(t, "bodies alone", slices.DeleteFunc(bodies, func(p piece) bool { return !isOwn(p) }))
			some += len(one)
		}
	}
	if some < 1000 {
		t.Errorf("just %d frames are told", some)
	}
}

// What is played is left as it was, and what is behind it; the answer shares nothing with it, nor with another one.
func TestWorldPlayMemory(t *testing.T) {
	for _, events := range fewPlays(29) {
		given, asked := []impl.Event{}, []piece{}
		for _, e := range events {
			e, own := ownEvent(e)
			given, asked = append(given, e), append(asked, own...)
		}
		behind := impl.Event{Kind: -5, Path: "spare"}
		given = append(given, behind, behind)[:len(events)]
		one, _ := impl.WorldPlay(given)
		two, _ := impl.WorldPlay(given)
		if !slices.Equal(given, events) || !slices.Equal(given[len(events):len(events)+2], []impl.Event{behind, behind}) {
			t.Fatalf("what was given became %+v", given)
		}
		mustBeWorld(t, "WorldPlay, twice", two, one)
		mustBeApartAmong(t, "the answer alone", worldLists(one))
		mustBeApartAmong(t, "the texts of the answer alone", ownTexts(one))
		mustBeApart(t, "two answers", worldLists(one), worldLists(two))
		mustBeApart(t, "texts of two answers", ownTexts(one), ownTexts(two))
		mustBeApart(t, "texts and what was given", worldTexts(one), asked)
	}
}

// New worlds share nothing.
func TestWorldNewMemory(t *testing.T) {
	one, two := impl.WorldNew(), impl.WorldNew()
	mustBeApartAmong(t, "a new world", worldLists(one))
	mustBeApart(t, "two new worlds", worldLists(one), worldLists(two))
}

// Calls at one time, of one world, answer the same as one by one: none keeps anything, and none touches anything when it has answered.
func TestWorldAtOnce(t *testing.T) {
	for at, w := range append(reached(1009), anyWorlds(10)...) {
		given := spareWorld(w)
		want := []impl.World{impl.WorldDo(w, saying(at%2)), impl.WorldDo(w, passing(at%2, 30)), impl.WorldCalm(w, 1)}
		got := make([]impl.World, 30)
		var all sync.WaitGroup
		for turn := range got {
			all.Go(func() {
				switch turn % 3 {
				case 0:
					got[turn] = impl.WorldDo(given, saying(at%2))
				case 1:
					got[turn] = impl.WorldDo(given, passing(at%2, 30))
				default:
					got[turn] = impl.WorldCalm(given, 1)
				}
				scribbleWorld(got[turn])
			})
		}
		all.Wait()
		mustBeWorldAsGiven(t, "calls at one time", given, w)
		for turn := range got {
			if got[turn].Up != want[turn%3].Up || got[turn].Down != want[turn%3].Down || got[turn].Caller.Came != want[turn%3].Caller.Came {
				t.Fatalf("at one time it is %+v, not %+v", got[turn], want[turn%3])
			}
		}
	}
}

// scribbleWorld writes over all lists of a world, their spare room too.
func scribbleWorld(w impl.World) {
	for _, e := range []impl.End{w.Caller, w.Answerer} {
		scribble(e.Out.Fields)
		scribble(e.In.Fields)
		for _, s := range e.Streams {
			scribble(s.Head)
			scribble(s.Got)
		}
		for at := range e.Streams[:cap(e.Streams)] {
			e.Streams[:cap(e.Streams)][at] = spare.Streams[0]
		}
		for at := range e.Wait[:cap(e.Wait)] {
			e.Wait[:cap(e.Wait)][at] = spare.Wait[0]
		}
	}
}

// An answer that is written over leaves what was given, and other answers, as they were.
func TestWorldWrittenOver(t *testing.T) {
	for _, w := range append(reached(307), anyWorlds(60)...) {
		for _, e := range []impl.Event{calling("/up", "abc"), leaving(1), saying(0), saying(1), passing(0, 30), passing(1, 30), {}} {
			given := spareWorld(w)
			one, two := impl.WorldDo(given, e), impl.WorldDo(given, e)
			scribbleWorld(one)
			mustBeWorldAsGiven(t, "what was given", given, w)
			mustBeWorld(t, "another answer", two, wantWorldDo(w, e))
			scribbleWorld(given)
			mustBeWorld(t, "an answer of what is written over", two, wantWorldDo(w, e))
		}
	}
}
