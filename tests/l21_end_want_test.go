package tests

import (
	"fmt"
	"reflect"
	"slices"
	"strings"
	"testing"

	"loop.example/lamson/impl"
)

// This file has what the document says of ends, worked out apart from the program, and ends of all kinds; the tests are in the other files of this layer.

// wantHeadOk is what the document says of heads.
func wantHeadOk(head []impl.Field) bool {
	if len(head) > 6 {
		return false
	}
	for _, f := range head {
		if f.Name == "" || !wantOk(f.Name) || !wantOk(f.Val) {
			return false
		}
	}
	return true
}

// wantTableOk is what the document says of tables.
func wantTableOk(table impl.Table) bool {
	for _, f := range table.Fields {
		if f.Never || !wantHeadOk([]impl.Field{f}) {
			return false
		}
	}
	return table.Max >= 0 && table.Max <= 64 && sizeOf(table.Fields) <= table.Max
}

// wantStreamOk is what the document says of one stream of an end.
func wantStreamOk(s impl.Stream) bool {
	return slices.Contains([]int{1, 3, 5, 7}, s.Id) && slices.Contains([]int{1, 2, 3}, s.State) &&
		wantHeadOk(s.Head) && wantHeadOk(s.Got) && wantOk(s.Say) && wantOk(s.Text) &&
		s.Sent >= 0 && s.Sent <= len(s.Say) && wantFlowOk(s.Flow)
}

// wantEndOk is what the document says of ends.
func wantEndOk(e impl.End) bool {
	if len(e.Streams) > 4 || len(e.Wait) > 60 || len(e.Came) > 600 {
		return false
	}
	ids := []int{}
	for _, s := range e.Streams {
		if !wantStreamOk(s) {
			return false
		}
		ids = append(ids, s.Id)
	}
	for at := range ids {
		if at > 0 && ids[at] <= ids[at-1] || !e.Answers && ids[at] != 1+2*at {
			return false
		}
	}
	for _, f := range e.Wait {
		if !wantFrameOk(f) {
			return false
		}
	}
	return wantTableOk(e.Out) && wantTableOk(e.In) && wantFlowOk(e.Flow)
}

// copyEnd is the end, with lists of its own.
func copyEnd(e impl.End) impl.End {
	e.Out.Fields, e.In.Fields = slices.Clone(e.Out.Fields), slices.Clone(e.In.Fields)
	e.Wait, e.Streams = slices.Clone(e.Wait), slices.Clone(e.Streams)
	for at := range e.Streams {
		s := &e.Streams[at]
		s.Head, s.Got = slices.Clone(s.Head), slices.Clone(s.Got)
	}
	return e
}

// newStream is what the document says of a new stream.
func newStream(id int) impl.Stream {
	return impl.Stream{Id: id, State: 1, Flow: impl.Flow{Send: 8, Room: 8}}
}

// callHead is what the document says of the head of a call.
func callHead(path, text string) []impl.Field {
	return []impl.Field{{Name: ":path", Val: path}, {Name: "kind", Val: "text"}, {Name: "size", Val: fmt.Sprint(len(text))}}
}

// wantEndCall is what the document says of a call.
func wantEndCall(e impl.End, path, text string) (impl.End, int, bool) {
	if !wantEndOk(e) {
		return impl.End{}, 0, false
	}
	if e.Answers || len(e.Streams) == 4 || !wantOk(path) || !wantOk(text) {
		return e, 0, false
	}
	e = copyEnd(e)
	s := newStream([]int{1, 3, 5, 7}[len(e.Streams)])
	s.Head, s.Say = callHead(path, text), text
	e.Streams = append(e.Streams, s)
	return e, s.Id, true
}

// wantEndLeave is what the document says of a call that is given up.
func wantEndLeave(e impl.End, id int) (impl.End, bool) {
	if !wantEndOk(e) {
		return impl.End{}, false
	}
	at := slices.IndexFunc(e.Streams, func(s impl.Stream) bool { return s.Id == id && s.State == 1 })
	if e.Answers || at < 0 {
		return e, false
	}
	e = copyEnd(e)
	e.Streams[at].State = 3
	if e.Streams[at].Begun {
		e.Wait = append(e.Wait, impl.Frame{Kind: 3, Stream: id})
	}
	return e, true
}

// frameBytes is an ok frame in bytes; of one that is not ok, as that of too long a head, none.
func frameBytes(f impl.Frame) string {
	if !wantFrameOk(f) {
		return ""
	}
	return wantFrameWrite(f)
}

// wantEndWrite is what the document says of what an end has to say.
func wantEndWrite(e impl.End) (impl.End, string) {
	if !wantEndOk(e) || e.Bad {
		return impl.End{}, ""
	}
	e = copyEnd(e)
	out := ""
	for _, f := range e.Wait {
		out += frameBytes(f)
		if f.Kind == 8 && f.Stream == 0 {
			e.Flow.Room = min(31, e.Flow.Room+int(f.Body[0]))
		}
		for at := range e.Streams {
			if s := &e.Streams[at]; f.Kind == 8 && f.Stream == s.Id {
				s.Flow.Room = min(31, s.Flow.Room+int(f.Body[0]))
			}
		}
	}
	e.Wait = nil
	for at := range e.Streams {
		out += wantStreamWrite(&e, &e.Streams[at])
	}
	return e, out
}

// wantStreamWrite is what the document says of what there is to say of one stream.
func wantStreamWrite(e *impl.End, s *impl.Stream) string {
	if s.State != 1 || len(s.Head) == 0 || s.Said {
		return ""
	}
	out := ""
	if !s.Begun {
		fields, b := wantHeadWrite(e.Out, s.Head)
		e.Out.Fields = slices.Clone(fields)
		s.Begun, s.Said = true, s.Say == ""
		out += frameBytes(impl.Frame{Kind: 1, Last: s.Say == "", Stream: s.Id, Body: b})
	}
	left := s.Say[s.Sent:]
	if n := slices.Min([]int{len(left), s.Flow.Send, e.Flow.Send}); n > 0 && !s.Said {
		s.Flow.Send, e.Flow.Send, s.Sent = s.Flow.Send-n, e.Flow.Send-n, s.Sent+n
		s.Said = n == len(left)
		out += frameBytes(impl.Frame{Kind: 0, Last: n == len(left), Stream: s.Id, Body: left[:n]})
	}
	if s.Said && e.Answers {
		s.State = 2
	}
	return out
}

// wantEndHear is what the document says of bytes that come.
func wantEndHear(e impl.End, b string) impl.End {
	if !wantEndOk(e) || len(b) > 300 {
		return impl.End{}
	}
	if e.Bad || len(e.Came+b) > 300 || len(e.Wait) > 40 {
		return e
	}
	e = copyEnd(e)
	e.Came += b
	for {
		f, used, is := wantFrameRead(e.Came)
		if is <= 0 {
			e.Bad = is < 0
			return e
		}
		e.Came = e.Came[used:]
		if !wantHearFrame(&e, f) {
			e.Bad = true
			return e
		}
	}
}

// wantHearFrame is what the document says of one frame that is heard; false, if the end is bad then.
func wantHearFrame(e *impl.End, f impl.Frame) bool {
	fields, head, _, isHead := wantHeadRead(e.In, f.Body)
	if f.Kind == 1 && e.Answers && !slices.ContainsFunc(e.Streams, func(s impl.Stream) bool { return s.Id >= f.Stream }) {
		e.Streams = append(e.Streams, newStream(f.Stream))
	}
	at := slices.IndexFunc(e.Streams, func(s impl.Stream) bool { return s.Id == f.Stream })
	if f.Kind == 8 && f.Stream == 0 {
		return wantHearMore(&e.Flow, f)
	}
	if at < 0 {
		return false
	}
	s := &e.Streams[at]
	switch f.Kind {
	case 8:
		return wantHearMore(&s.Flow, f)
	case 3:
		if e.Answers {
			s.State = 3
		}
		return e.Answers
	case 1:
		if !isHead || len(head) == 0 || len(s.Got) > 0 || s.Heard {
			return false
		}
		e.In.Fields, s.Got = slices.Clone(fields), head
	case 0:
		n := len(f.Body)
		if len(s.Got) == 0 || s.Heard || e.Flow.Room < n || s.Flow.Room < n || !wantOk(s.Text+f.Body) {
			return false
		}
		s.Text, e.Flow.Room, s.Flow.Room = s.Text+f.Body, e.Flow.Room-n, s.Flow.Room-n
		if n > 0 {
			e.Wait = append(e.Wait, moreFrame(0, n), moreFrame(s.Id, n))
		}
	}
	if f.Last {
		wantHeard(e.Answers, s)
	}
	return true
}

// wantHeard is what the document says of a stream of which all was heard.
func wantHeard(answers bool, s *impl.Stream) {
	s.Heard = true
	if s.State != 1 {
		return
	}
	if !answers {
		s.State = 2
		return
	}
	path := ""
	if at := slices.IndexFunc(s.Got, func(f impl.Field) bool { return f.Name == ":path" }); at >= 0 {
		path = s.Got[at].Val
	}
	status, text := wantAnswer(path, s.Text)
	s.Head = []impl.Field{{Name: ":status", Val: status}, {Name: "kind", Val: "text"}}
	s.Say, s.Begun, s.Said, s.Sent = text, false, false, 0
}

// wantHearMore is what the document says of more that may be sent.
func wantHearMore(flow *impl.Flow, f impl.Frame) bool {
	send := flow.Send + int(f.Body[0])
	flow.Send = min(31, send)
	return send <= 31
}

// wantAnswer is what the document says of answers.
func wantAnswer(path, text string) (string, string) {
	switch path {
	case "/echo":
		return "0", text
	case "/len":
		return "0", fmt.Sprint(len(text))
	case "/up":
		const from, to = "abcdefghijklmnopqrstuvwxy", "bcdefghijklmnopqrstuvwxyz"
		out := ""
		for _, c := range []byte(text) {
			if at := strings.IndexByte(from, c); at >= 0 {
				c = to[at]
			}
			out += string([]byte{c})
		}
		return "0", out
	}
	return "12", ""
}

// moreFrame is a frame that tells of so much more.
func moreFrame(stream, n int) impl.Frame {
	return impl.Frame{Kind: 8, Stream: stream, Body: string([]byte{byte(n)})}
}

// sameEnd says whether two ends are the same; the empty list and none are.
func sameEnd(a, b impl.End) bool {
	return a.Answers == b.Answers && a.Bad == b.Bad && a.Came == b.Came && a.Flow == b.Flow &&
		a.Out.Max == b.Out.Max && a.In.Max == b.In.Max && slices.Equal(a.Out.Fields, b.Out.Fields) && slices.Equal(a.In.Fields, b.In.Fields) &&
		slices.Equal(a.Wait, b.Wait) && slices.EqualFunc(a.Streams, b.Streams, sameStream)
}

// sameStream says whether two streams are the same.
func sameStream(a, b impl.Stream) bool {
	if !slices.Equal(a.Head, b.Head) || !slices.Equal(a.Got, b.Got) {
		return false
	}
	a.Head, a.Got, b.Head, b.Got = nil, nil, nil, nil
	return reflect.DeepEqual(a, b)
}

// mustBeEnd fails unless the end is this one.
func mustBeEnd(t *testing.T, what string, got, want impl.End) {
	t.Helper()
	if !sameEnd(got, want) {
		t.Fatalf("%s is\n%+v, not\n%+v", what, got, want)
	}
}

// mustCallAs fails unless EndCall answers as the document says; it answers that.
func mustCallAs(t *testing.T, e impl.End, path, text string) (impl.End, int, bool) {
	t.Helper()
	got, id, ok := impl.EndCall(e, path, text)
	want, wantId, wantIs := wantEndCall(e, path, text)
	if id != wantId || ok != wantIs || !sameEnd(got, want) {
		t.Fatalf("EndCall(%+v, %q, %q) is\n%+v, %d, %v, not\n%+v, %d, %v", e, path, text, got, id, ok, want, wantId, wantIs)
	}
	return got, id, ok
}

// mustLeaveAs fails unless EndLeave answers as the document says; it answers that.
func mustLeaveAs(t *testing.T, e impl.End, id int) (impl.End, bool) {
	t.Helper()
	got, ok := impl.EndLeave(e, id)
	want, wantIs := wantEndLeave(e, id)
	if ok != wantIs || !sameEnd(got, want) {
		t.Fatalf("EndLeave(%+v, %d) is\n%+v, %v, not\n%+v, %v", e, id, got, ok, want, wantIs)
	}
	return got, ok
}

// mustSayAs fails unless EndWrite answers as the document says; it answers that.
func mustSayAs(t *testing.T, e impl.End) (impl.End, string) {
	t.Helper()
	got, b := impl.EndWrite(e)
	want, wantB := wantEndWrite(e)
	if b != wantB || !sameEnd(got, want) {
		t.Fatalf("EndWrite(%+v) is\n%+v, %x, not\n%+v, %x", e, got, b, want, wantB)
	}
	return got, b
}

// mustHearAs fails unless EndHear answers as the document says; it answers that.
func mustHearAs(t *testing.T, e impl.End, b string) impl.End {
	t.Helper()
	got, want := impl.EndHear(e, b), wantEndHear(e, b)
	if !sameEnd(got, want) {
		t.Fatalf("EndHear(%+v, %x) is\n%+v, not\n%+v", e, b, got, want)
	}
	return got
}

// picker picks without any plan, the same in each run.
type picker struct{ seed uint32 }

// of picks a number, from 0 on, of so many.
func (p *picker) of(n int) int {
	p.seed = p.seed*1664525 + 1013904223
	return int(p.seed>>10) % n
}

// is picks whether something is, once in so many times.
func (p *picker) is(in int) bool {
	return p.of(in) == 0
}

// pick picks one of some.
func pick[T any](p *picker, some []T) T {
	return some[p.of(len(some))]
}

// endStore is what ends are made of, worked out once.
type endStore struct {
	tables []impl.Table
	heads  [][]impl.Field
	words  []string
	paths  []string
	frames []impl.Frame
}

// newEndStore is what ends are made of.
func newEndStore() endStore {
	big := impl.Field{Name: strings.Repeat("-", 16), Val: strings.Repeat("z", 16)}
	heads := [][]impl.Field{
		callHead("/up", "abc"), callHead("/echo", ""), callHead("/len", "0123456789"), callHead("/no", "x"), callHead("", "e"),
		{{Name: ":status", Val: "0"}, {Name: "kind", Val: "text"}}, {{Name: ":status", Val: "12"}, {Name: "kind", Val: "text"}},
		{{Name: ":status", Val: "5"}}, {{Name: "te", Val: "trailers"}}, {{Name: "a", Val: "1", Never: true}, {Name: ":path", Val: "/len", Never: true}},
		{{Name: ":path", Val: "/up"}, {Name: ":path", Val: "/echo"}}, slices.Repeat([]impl.Field{big}, 6), slices.Repeat([]impl.Field{big}, 5), fixedFields,
	}
	return endStore{
		tables: fewTables(),
		heads:  append(heads, anyHeads(7)[3:]...),
		words:  []string{"", "e", "z", "abc", "abcdefg", "abcdefgh", "xyzxyzxyz", "a-b:c/d", "0123456789abcde", "0123456789abcdef", strings.Repeat("z", 16), "yz/:-9876543210a"},
		paths:  []string{"/up", "/echo", "/len", "/no", "", "/", "up", "/echo/", "/ech", "/upp"},
		frames: fewFrames(),
	}
}

// flow picks a window.
func (r endStore) flow(p *picker) impl.Flow {
	nums := []int{0, 1, 2, 7, 8, 8, 8, 9, 15, 16, 16, 17, 30, 31}
	return impl.Flow{Send: pick(p, nums), Room: pick(p, nums)}
}

// stream picks an ok stream of a number, in any state that there may be.
func (r endStore) stream(p *picker, id int) impl.Stream {
	s := impl.Stream{Id: id, State: 1, Begun: p.is(2), Said: p.is(4), Heard: p.is(4), Flow: r.flow(p)}
	if p.is(4) {
		s.State = 2 + p.of(2)
	}
	if !p.is(4) {
		s.Head, s.Say = pick(p, r.heads), pick(p, r.words)
		s.Sent = p.of(len(s.Say) + 1)
	}
	if !p.is(3) {
		s.Got, s.Text = pick(p, r.heads), pick(p, r.words)
	}
	if p.is(2) {
		s.Text = ""
	}
	return s
}

// end picks an ok end.
func (r endStore) end(p *picker) impl.End {
	e := impl.End{Answers: p.is(2), Out: pick(p, r.tables), In: pick(p, r.tables), Flow: r.flow(p), Bad: p.is(20)}
	for at := range p.of(5) {
		if !e.Answers || !p.is(3) {
			e.Streams = append(e.Streams, r.stream(p, 1+2*at))
		}
	}
	for range pick(p, []int{0, 0, 0, 0, 1, 2, 3, 9, 20, 40, 41, 60}) {
		e.Wait = append(e.Wait, pick(p, r.frames))
	}
	if p.is(3) {
		e.Came = r.bytes(p, e, 1+p.of(4))
		e.Came = e.Came[:p.of(min(601, len(e.Came)+1))]
	}
	if p.is(40) {
		e.Came = stirred(pick(p, []int{299, 300, 301, 599, 600}), uint32(p.of(1000)))
	}
	return e
}

// bytes picks frames in bytes that may come to an end, most of them such as are heard.
func (r endStore) bytes(p *picker, e impl.End, count int) string {
	out, in := "", e.In
	for range count {
		id := 1 + 2*p.of(4)
		if len(e.Streams) > 0 && !p.is(5) {
			id = pick(p, e.Streams).Id
		}
		switch p.of(16) {
		case 0, 1, 2, 3:
			fields, b := wantHeadWrite(in, pick(p, r.heads))
			if len(b) <= 200 {
				in.Fields = fields
				out += wantFrameWrite(impl.Frame{Kind: 1, Last: p.is(3), Stream: id, Body: b})
			}
		case 4:
			out += wantFrameWrite(impl.Frame{Kind: 1, Last: p.is(3), Stream: id, Body: pick(p, []string{"", "\x00", "\x80", "\xff", "\x40\x00\x00", "\x84\x84\x84\x84\x84\x84\x84", "\x84\x00"})})
		case 5, 6, 7, 8, 9, 10:
			text := pick(p, r.words)
			out += wantFrameWrite(impl.Frame{Kind: 0, Last: p.is(3), Stream: id, Body: text[:p.of(len(text)+1)]})
		case 11:
			out += wantFrameWrite(moreFrame(id, 1+p.of(9)))
		case 12:
			out += wantFrameWrite(moreFrame(0, 1+p.of(31)))
		case 13:
			out += wantFrameWrite(impl.Frame{Kind: 3, Stream: id})
		case 14:
			out += wantFrameWrite(pick(p, r.frames))
		case 15:
			if p.is(3) {
				out += stirred(1+p.of(12), uint32(p.of(1000)))
			}
		}
	}
	return out
}

// anyEnds is so many ok ends, made by hand.
func anyEnds(count int) []impl.End {
	store, p := newEndStore(), &picker{seed: 21}
	ends := []impl.End{}
	for range count {
		ends = append(ends, store.end(p))
	}
	return ends
}
