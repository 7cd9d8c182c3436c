package tests

import (
	"fmt"
	"slices"
	"strings"
	"testing"
	"unsafe"

	"loop.example/lamson/impl"
)

// piece is memory that something has.
type piece struct {
	from, to uintptr
	what     string
}

// listPiece is the memory of a list, its spare room too.
func listPiece[T any](what string, list []T) piece {
	from := uintptr(unsafe.Pointer(unsafe.SliceData(list)))
	var one T
	return piece{from, from + uintptr(cap(list))*unsafe.Sizeof(one), what}
}

// listPieces is the memory of all lists of an end.
func listPieces(e impl.End) []piece {
	out := []piece{listPiece("Out", e.Out.Fields), listPiece("In", e.In.Fields), listPiece("Streams", e.Streams), listPiece("Wait", e.Wait)}
	for at, s := range e.Streams {
		out = append(out, listPiece(fmt.Sprint("Head ", at), s.Head), listPiece(fmt.Sprint("Got ", at), s.Got))
	}
	return out
}

// textPieces is the memory of all texts of an end.
func textPieces(e impl.End) []piece {
	texts := []string{e.Came}
	heads := [][]impl.Field{e.Out.Fields, e.In.Fields}
	for _, s := range e.Streams {
		texts = append(texts, s.Say, s.Text)
		heads = append(heads, s.Head, s.Got)
	}
	for _, f := range e.Wait {
		texts = append(texts, f.Body)
	}
	for _, f := range slices.Concat(heads...) {
		texts = append(texts, f.Name, f.Val)
	}
	out := []piece{}
	for _, w := range texts {
		from := uintptr(unsafe.Pointer(unsafe.StringData(w)))
		out = append(out, piece{from, from + uintptr(len(w)), w})
	}
	return out
}

// mustBeApart fails if two pieces of memory have something in common.
func mustBeApart(t *testing.T, what string, some, others []piece) {
	t.Helper()
	for _, a := range some {
		for _, b := range others {
			if a.from < b.to && b.from < a.to {
				t.Fatalf("%s: %s and %s share memory", what, a.what, b.what)
			}
		}
	}
}

// mustBeApartAmong fails if two of the pieces have something in common.
func mustBeApartAmong(t *testing.T, what string, some []piece) {
	t.Helper()
	for at := range some {
		mustBeApart(t, what, some[at:at+1], some[at+1:])
	}
}

// isOwn says whether a text is one that an answer must have made: not one of the program's own words, nor one of a byte, nor a small number, as those are kept for all by the language, and nobody can write to them.
func isOwn(p piece) bool {
	return len(p.what) > 1 && (len(p.what) > 2 || p.what > "99") && !slices.Contains([]string{":path", ":status", "kind", "text", "size", "te", "trailers"}, p.what)
}

// ownPieces is those of the texts of an end that an answer must have made.
func ownPieces(e impl.End) []piece {
	return slices.DeleteFunc(textPieces(e), func(p piece) bool { return !isOwn(p) })
}

// spare is what stands in the spare room of the lists that are given.
var spare = impl.End{
	Streams: []impl.Stream{{Id: -5, Say: "spare"}},
	Wait:    []impl.Frame{{Kind: -5, Body: "spare"}},
}

// spareFields is the fields, each of texts of their own, with spare room in which something stands.
func spareFields(fields []impl.Field) []impl.Field {
	out := []impl.Field{}
	for _, f := range fields {
		out = append(out, impl.Field{Name: strings.Clone(f.Name), Val: strings.Clone(f.Val), Never: f.Never})
	}
	return append(out, mark, mark, mark)[:len(fields)]
}

// spareEnd is the end, its lists and texts in memory of their own, with spare room in which something stands.
func spareEnd(e impl.End) impl.End {
	streams, wait := []impl.Stream{}, []impl.Frame{}
	for _, s := range e.Streams {
		s.Head, s.Got, s.Say, s.Text = spareFields(s.Head), spareFields(s.Got), strings.Clone(s.Say), strings.Clone(s.Text)
		streams = append(streams, s)
	}
	for _, f := range e.Wait {
		f.Body = strings.Clone(f.Body)
		wait = append(wait, f)
	}
	e.Streams = append(streams, spare.Streams[0], spare.Streams[0])[:len(streams)]
	e.Wait = append(wait, spare.Wait[0], spare.Wait[0], spare.Wait[0])[:len(wait)]
	e.Out.Fields, e.In.Fields, e.Came = spareFields(e.Out.Fields), spareFields(e.In.Fields), strings.Clone(e.Came)
	return e
}

// mustBeAsGiven fails unless an end that was given is as it was, with what stood behind its lists.
func mustBeAsGiven(t *testing.T, what string, given, before impl.End) {
	t.Helper()
	mustBeEnd(t, what+": what was given", given, before)
	lists := [][]impl.Field{given.Out.Fields, given.In.Fields}
	for _, s := range given.Streams {
		lists = append(lists, s.Head, s.Got)
	}
	for _, list := range lists {
		if !slices.Equal(list[len(list):len(list)+3], []impl.Field{mark, mark, mark}) {
			t.Fatalf("%s: something is written behind a list of fields", what)
		}
	}
	n := len(given.Wait)
	if !slices.Equal(given.Wait[n:n+3], slices.Repeat(spare.Wait, 3)) {
		t.Fatalf("%s: something is written behind Wait", what)
	}
	n = len(given.Streams)
	if !slices.EqualFunc(given.Streams[n:n+2], slices.Repeat(spare.Streams, 2), sameStream) {
		t.Fatalf("%s: something is written behind Streams", what)
	}
}

// mustAnswerApart fails unless what a function answers of an end is in memory of its own, twice, and leaves what was given.
func mustAnswerApart(t *testing.T, what string, e impl.End, texts []string, call func(e impl.End) (impl.End, string)) {
	t.Helper()
	given := spareEnd(e)
	one, first := call(given)
	two, second := call(given)
	mustBeAsGiven(t, what, given, e)
	mustBeEnd(t, what+", twice", two, one)
	if first != second {
		t.Fatalf("%s is %x, then %x", what, first, second)
	}
	said := []piece{{uintptr(unsafe.Pointer(unsafe.StringData(first))), uintptr(unsafe.Pointer(unsafe.StringData(first))) + uintptr(len(first)), "what is said"}}
	asked := []piece{}
	for _, w := range texts {
		from := uintptr(unsafe.Pointer(unsafe.StringData(w)))
		asked = append(asked, piece{from, from + uintptr(len(w)), w})
	}
	lists := listPieces(one)
	mustBeApartAmong(t, what+", the answer alone", lists)
	mustBeApartAmong(t, what+", the texts of the answer alone", append(ownPieces(one), said...))
	mustBeApart(t, what+", the answer and what was given", lists, listPieces(given))
	mustBeApart(t, what+", two answers", lists, listPieces(two))
	mustBeApart(t, what+", texts of the answer and of what was given", append(textPieces(one), said...), append(textPieces(given), asked...))
	mustBeApart(t, what+", texts of two answers", ownPieces(one), ownPieces(two))
}

// What each function answers shares nothing with what was given, nor with another part of the answer; what was given is left as it was, and what is behind it.
func TestEndMemory(t *testing.T) {
	store, p := newEndStore(), &picker{seed: 5}
	for at, e := range manyEnds(t) {
		path, text := strings.Clone(pick(p, store.paths)), strings.Clone(pick(p, store.words))
		mustAnswerApart(t, "EndCall", e, []string{path, text}, func(e impl.End) (impl.End, string) {
			then, _, _ := impl.EndCall(e, path, text)
			return then, ""
		})
		mustAnswerApart(t, "EndCall of no word", e, nil, func(e impl.End) (impl.End, string) {
			then, _, _ := impl.EndCall(e, "E", "")
			return then, ""
		})
		for _, id := range []int{1, 3, 2} {
			mustAnswerApart(t, "EndLeave", e, nil, func(e impl.End) (impl.End, string) {
				then, _ := impl.EndLeave(e, id)
				return then, ""
			})
		}
		mustAnswerApart(t, "EndWrite", e, nil, impl.EndWrite)
		for range 3 {
			b := store.bytes(p, e, 1+p.of(5))
			b = strings.Clone(b[:min(len(b), 300)])
			mustAnswerApart(t, "EndHear", e, []string{b}, func(e impl.End) (impl.End, string) { return impl.EndHear(e, b), "" })
		}
		mustAnswerApart(t, "EndHear of nothing", e, nil, func(e impl.End) (impl.End, string) { return impl.EndHear(e, ""), "" })
		given := spareEnd(e)
		impl.EndOk(given)
		mustBeAsGiven(t, fmt.Sprint("EndOk ", at), given, e)
	}
}

// New ends share nothing; nor does what EndAnswer answers with the text that it is given.
func TestEndNewAndAnswerMemory(t *testing.T) {
	for range 3 {
		one, two := impl.EndNew(true), impl.EndNew(true)
		mustBeApartAmong(t, "a new end", listPieces(one))
		mustBeApart(t, "two new ends", listPieces(one), listPieces(two))
	}
	text := strings.Clone("0123456789")
	for _, path := range []string{"/echo", "/up", "/len", "/no"} {
		if _, answer := impl.EndAnswer(path, text); liesIn(answer, text) {
			t.Errorf("the answer of %s shares memory with the text", path)
		}
	}
}

// Bytes that came by and by, of many more, are not held on to.
func TestEndHearHoldsOnToNothing(t *testing.T) {
	b := headOf(1, false, callHead("/echo", "abc")) + dataOf(1, false, "abc") + moreBytes(0, 1) + "\x05\x00\x00\x01abc"
	for _, came := range []int{0, 3, 15, len(b) - 4} {
		e := impl.EndNew(true)
		e.Came = strings.Clone(b[:came])
		rest := strings.Clone(b[came:])
		got := mustBeGood(t, e, rest)
		if got.Came != "\x05\x00\x00\x01abc" {
			t.Fatalf("%x waits", got.Came)
		}
		mustBeApart(t, "what came", textPieces(got), []piece{listPiece("came", unsafe.Slice(unsafe.StringData(e.Came), len(e.Came))), listPiece("rest", unsafe.Slice(unsafe.StringData(rest), len(rest)))})
		mustBeApartAmong(t, "an end that heard", ownPieces(got))
	}
}
