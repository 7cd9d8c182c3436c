package tests

import (
	"math"
	"slices"
	"strings"
	"testing"

	"loop.example/lamson/impl"
)

// wantFrameOk is what the document says of frames, worked out apart from the program.
func wantFrameOk(f impl.Frame) bool {
	own := slices.Contains([]int{1, 3, 5, 7}, f.Stream)
	switch f.Kind {
	case 0, 1:
		return own && len(f.Body) <= 200
	case 3:
		return own && !f.Last && len(f.Body) == 0
	case 8:
		return (own || f.Stream == 0) && !f.Last && len(f.Body) == 1 && f.Body[0] != 0 && f.Body[0] < 32
	}
	return false
}

// wantFrameWrite is what the document says of an ok frame in bytes.
func wantFrameWrite(f impl.Frame) string {
	last := byte(0)
	if f.Last {
		last = 1
	}
	return string([]byte{byte(len(f.Body)), byte(f.Kind), last, byte(f.Stream)}) + f.Body
}

// wantFrameRead is what the document says of the frame at the beginning of bytes.
func wantFrameRead(b string) (impl.Frame, int, int) {
	none := impl.Frame{}
	switch {
	case len(b) < 4:
		return none, 0, 0
	case b[0] >= 201 || b[2] >= 2:
		return none, 0, -1
	case len(b) < 4+int(b[0]):
		return none, 0, 0
	}
	f := impl.Frame{Kind: int(b[1]), Last: b[2] == 1, Stream: int(b[3]), Body: b[4 : 4+int(b[0])]}
	if !wantFrameOk(f) {
		return none, 0, -1
	}
	return f, 4 + int(b[0]), 1
}

// frameKinds is kinds that there are, those around them, and those that one byte would tell as the same.
func frameKinds() []int {
	kinds := []int{-256, -255, -253, -248, 127, 128, 254, 255, 256, 257, 259, 264, 1 << 32, 1<<32 + 1, math.MinInt, math.MaxInt}
	for kind := -3; kind <= 17; kind++ {
		kinds = append(kinds, kind)
	}
	return kinds
}

// frameStreams is streams that there are, those around them, and those that one byte would tell as the same.
func frameStreams() []int {
	streams := []int{-256, -255, -249, 127, 128, 129, 254, 255, 256, 257, 259, 263, 1 << 32, 1<<32 + 1, math.MinInt, math.MinInt + 1, math.MaxInt}
	for stream := -9; stream <= 13; stream++ {
		streams = append(streams, stream)
	}
	return streams
}

// frameBodies is bodies of one byte, of each that a window may be told, and beyond, and of sizes around all limits; some are such as frames begin with.
func frameBodies() []string {
	bodies := []string{"", "\x7f", "\x80", "\xe1", "\xfe", "\xff", "\x00\x00", "\x01\x01", "\x00\x01", "\x1f\x00", "hi", "\x00\x03\x00\x01", "\x01\x08\x00\x00\x05", "\xff\xff\xff\xff\xff"}
	for c := range 36 {
		bodies = append(bodies, string([]byte{byte(c)}))
	}
	for _, size := range []int{3, 4, 5, 16, 17, 31, 32, 100, 198, 199, 200, 201, 202, 254, 255, 256, 257, 258, 455, 456, 457, 512, 513, 5000} {
		bodies = append(bodies, stirred(size, uint32(size)))
	}
	return append(bodies, strings.Repeat("\x00", 200), strings.Repeat("\xff", 200), strings.Repeat("\x00", 201), strings.Repeat("\x01", 257))
}

// eachFrame goes through frames of all such kinds, streams and bodies, ok or not.
func eachFrame(do func(f impl.Frame)) {
	bodies := frameBodies()
	for _, kind := range frameKinds() {
		for _, stream := range frameStreams() {
			for _, body := range bodies {
				do(impl.Frame{Kind: kind, Stream: stream, Body: body})
				do(impl.Frame{Kind: kind, Last: true, Stream: stream, Body: body})
			}
		}
	}
}

// okFrames is those of them that are ok.
func okFrames() []impl.Frame {
	frames := []impl.Frame{}
	eachFrame(func(f impl.Frame) {
		if wantFrameOk(f) {
			frames = append(frames, f)
		}
	})
	return frames
}

// fewFrames is some ok frames, of each kind.
func fewFrames() []impl.Frame {
	frames := []impl.Frame{
		{Kind: 3, Stream: 1}, {Kind: 3, Stream: 7}, {Kind: 8, Stream: 0, Body: "\x01"}, {Kind: 8, Stream: 0, Body: "\x1f"},
		{Kind: 8, Stream: 1, Body: "\x08"}, {Kind: 8, Stream: 7, Body: "\x1f"}, {Kind: 8, Stream: 5, Body: "\x01"},
	}
	for _, kind := range []int{0, 1} {
		for _, last := range []bool{false, true} {
			for at, body := range []string{"", "\x01", "\x00", "\xff", "hi", "\x00\x03\x00\x01", "\x84\x45\x0212", stirred(199, 7), stirred(200, 9)} {
				frames = append(frames, impl.Frame{Kind: kind, Last: last, Stream: 1 + 2*(at%4), Body: body})
			}
		}
	}
	return frames
}

// mustReadFrame fails unless just this frame is at the beginning of the bytes.
func mustReadFrame(t *testing.T, b string, f impl.Frame) {
	t.Helper()
	got, used, is := impl.FrameRead(b)
	if got != f || used != 4+len(f.Body) || is != 1 {
		t.Fatalf("FrameRead(%x) is %#v, %d, %d, not %#v, %d, 1", b, got, used, is, f, 4+len(f.Body))
	}
}

// mustReadNoFrame fails unless the bytes are told as lacking some (0), or as none (-1), with nothing ahead.
func mustReadNoFrame(t *testing.T, b string, is int) {
	t.Helper()
	if f, used, got := impl.FrameRead(b); f != (impl.Frame{}) || used != 0 || got != is {
		t.Fatalf("FrameRead(%x) is %#v, %d, %d, not nothing, 0, %d", b, f, used, got, is)
	}
}

// mustReadFrameAs fails unless the bytes are read as the document says.
func mustReadFrameAs(t *testing.T, b string) int {
	t.Helper()
	f, used, is := wantFrameRead(b)
	if got, gotUsed, gotIs := impl.FrameRead(b); got != f || gotUsed != used || gotIs != is {
		t.Fatalf("FrameRead(%x) is %#v, %d, %d, not %#v, %d, %d", b, got, gotUsed, gotIs, f, used, is)
	}
	return is
}

// knownFrames is frames, and their bytes, written out by hand.
var knownFrames = []struct {
	f impl.Frame
	b string
}{
	{impl.Frame{Kind: impl.FrameData, Last: true, Stream: 5, Body: "hi"}, "\x02\x00\x01\x05hi"},
	{impl.Frame{Kind: impl.FrameData, Stream: 1}, "\x00\x00\x00\x01"},
	{impl.Frame{Kind: impl.FrameData, Last: true, Stream: 7}, "\x00\x00\x01\x07"},
	{impl.Frame{Kind: impl.FrameHead, Stream: 3, Body: "\x84\x45\x0212"}, "\x05\x01\x00\x03\x84\x45\x0212"},
	{impl.Frame{Kind: impl.FrameHead, Last: true, Stream: 1, Body: "\x82"}, "\x01\x01\x01\x01\x82"},
	{impl.Frame{Kind: impl.FrameReset, Stream: 5}, "\x00\x03\x00\x05"},
	{impl.Frame{Kind: impl.FrameMore, Stream: 0, Body: "\x01"}, "\x01\x08\x00\x00\x01"},
	{impl.Frame{Kind: impl.FrameMore, Stream: 7, Body: "\x1f"}, "\x01\x08\x00\x07\x1f"},
}

func TestFrameKnown(t *testing.T) {
	for _, c := range knownFrames {
		if !impl.FrameOk(c.f) {
			t.Errorf("%#v is not ok", c.f)
		}
		if b := impl.FrameWrite(c.f); b != c.b {
			t.Errorf("FrameWrite(%#v) is %x, not %x", c.f, b, c.b)
		}
		mustReadFrame(t, c.b, c.f)
	}
	full := strings.Repeat("e", 200)
	if b := impl.FrameWrite(impl.Frame{Stream: 3, Body: full}); b != "\xc8\x00\x00\x03"+full {
		t.Errorf("a full body is %x", b)
	}
	if impl.FrameMax != 200 || impl.StreamMax != 7 || impl.FrameData != 0 || impl.FrameHead != 1 || impl.FrameReset != 3 || impl.FrameMore != 8 {
		t.Error("a number is another one")
	}
}

// The frames of the tests are of all kinds that there are.
func TestFrameEdgesAreThere(t *testing.T) {
	counts := map[int]int{}
	for _, f := range okFrames() {
		counts[f.Kind]++
	}
	if len(counts) != 4 || counts[0] < 300 || counts[1] != counts[0] || counts[3] != 4 || counts[8] != 155 {
		t.Error(counts)
	}
	counts = map[int]int{}
	for _, f := range fewFrames() {
		counts[f.Kind]++
		if !wantFrameOk(f) {
			t.Errorf("%#v is not ok", f)
		}
	}
	if len(counts) != 4 {
		t.Error(counts)
	}
}

// All of FrameOk and of FrameWrite, also of what is no frame.
func TestFrameWrite(t *testing.T) {
	eachFrame(func(f impl.Frame) {
		ok, want := wantFrameOk(f), ""
		if ok {
			want = wantFrameWrite(f)
		}
		if got := impl.FrameOk(f); got != ok {
			t.Fatalf("FrameOk(%#v) is %v", f, got)
		}
		if got := impl.FrameWrite(f); got != want {
			t.Fatalf("FrameWrite(%#v) is %x, not %x", f, got, want)
		}
	})
}

// Promise 46.
func TestFrameReadBack(t *testing.T) {
	for _, f := range okFrames() {
		b := impl.FrameWrite(f)
		if len(b) != 4+len(f.Body) {
			t.Fatalf("FrameWrite(%#v) has %d bytes", f, len(b))
		}
		for _, behind := range behinds() {
			mustReadFrame(t, b+behind, f)
		}
	}
	for _, f := range fewFrames() {
		for c := range 256 {
			mustReadFrame(t, impl.FrameWrite(f)+string([]byte{byte(c)}), f)
		}
		mustReadFrame(t, impl.FrameWrite(f)+stirred(100000, 3), f)
	}
}

// mustReadFrameOneWay fails unless what is read of the bytes is ok, and they begin with what is written of it.
func mustReadFrameOneWay(t *testing.T, b string) int {
	t.Helper()
	f, used, is := impl.FrameRead(b)
	if is == 1 && (!impl.FrameOk(f) || used > len(b) || impl.FrameWrite(f) != b[:used]) {
		t.Fatalf("FrameRead(%x) is %#v, %d: not the one way", b, f, used)
	}
	return mustReadFrameAs(t, b)
}

// Promise 47: heads of all kinds, with bodies that are there, just not, and with more behind.
func TestFrameReadOneWay(t *testing.T) {
	counts := map[int]int{}
	streams := []int{12, 13, 127, 128, 129, 133, 249, 254, 255}
	for stream := range 12 {
		streams = append(streams, stream)
	}
	body := "\x05" + stirred(300, 1)
	for _, size := range []int{0, 1, 2, 199, 200, 201, 255} {
		for kind := range 256 {
			for _, last := range []int{0, 1, 2, 3, 128, 255} {
				for _, stream := range streams {
					lead := string([]byte{byte(size), byte(kind), byte(last), byte(stream)})
					for _, have := range []int{0, size - 1, size, size + 1} {
						counts[mustReadFrameOneWay(t, lead+body[:max(0, have)])]++
					}
				}
			}
		}
	}
	if counts[-1] < 1000 || counts[0] < 1000 || counts[1] < 100 {
		t.Error(counts)
	}
}

// Promise 47: bytes without any plan, and near those of frames.
func TestFrameReadStirred(t *testing.T) {
	for seed := range 20000 {
		b := []byte(stirred(4+seed%230, uint32(seed)))
		mustReadFrameOneWay(t, string(b))
		b[1], b[2], b[3] = []byte{0, 1, 3, 8}[b[1]%4], b[2]%2, b[3]%9
		mustReadFrameOneWay(t, string(b))
		b[0] %= 5
		mustReadFrameOneWay(t, string(b))
	}
	for _, f := range fewFrames() {
		b := wantFrameWrite(f)
		for _, near := range flips(b) {
			mustReadFrameOneWay(t, near)
		}
		for at := range len(b) {
			mustReadFrameOneWay(t, b[:at]+b[at+1:])
			mustReadFrameOneWay(t, b[:at]+"\x00"+b[at:])
			mustReadFrameOneWay(t, b[at:])
		}
	}
}

// Promise 48.
func TestFrameReadCut(t *testing.T) {
	for _, f := range okFrames() {
		b := impl.FrameWrite(f)
		for cut := range len(b) {
			mustReadNoFrame(t, b[:cut], 0)
		}
		mustReadFrame(t, b, f)
	}
}

// Promise 48: of fewer than four bytes nothing is told, not even if no frame begins so.
func TestFrameReadShort(t *testing.T) {
	mustReadNoFrame(t, "", 0)
	for first := range 256 {
		for second := range 256 {
			b := string([]byte{byte(first), byte(second)})
			mustReadNoFrame(t, b[:1], 0)
			mustReadNoFrame(t, b, 0)
			for _, third := range []string{"\x00", "\x01", "\x02", "\xff"} {
				mustReadNoFrame(t, b+third, 0)
			}
		}
	}
}

// Promise 49.
func TestFrameTwo(t *testing.T) {
	few := fewFrames()
	for _, first := range few {
		b := impl.FrameWrite(first)
		for _, second := range few {
			both := b + impl.FrameWrite(second)
			mustReadFrame(t, both, first)
			_, used, _ := impl.FrameRead(both)
			mustReadFrame(t, both[used:], second)
			mustReadFrame(t, both[used:]+"\xff", second)
			mustReadNoFrame(t, both[used:len(both)-1], 0)
		}
	}
}

// Promise 49: many frames, one behind the other, until bytes lack, or are none.
func TestFrameMany(t *testing.T) {
	frames, all := okFrames(), ""
	for _, f := range frames {
		all += impl.FrameWrite(f)
	}
	for _, end := range []struct {
		b  string
		is int
	}{{"", 0}, {"\x00", 0}, {"\x05\x00\x00\x01text", 0}, {"\xc9\x00\x00\x01", -1}, {"\x00\x02\x00\x01", -1}} {
		rest := all + end.b
		for _, f := range frames {
			mustReadFrame(t, rest, f)
			_, used, _ := impl.FrameRead(rest)
			rest = rest[used:]
		}
		if rest != end.b {
			t.Fatalf("%x is left, not %x", rest, end.b)
		}
		mustReadNoFrame(t, rest, end.is)
	}
}

// Promise 50.
func TestFrameOkParts(t *testing.T) {
	eachFrame(func(f impl.Frame) {
		if !impl.FrameOk(f) {
			return
		}
		if f.Stream%2 == 0 && (f.Kind != impl.FrameMore || f.Stream != 0) || f.Stream < 0 || f.Stream > impl.StreamMax {
			t.Fatalf("%#v is ok, of such a stream", f)
		}
		if f.Last && f.Kind != impl.FrameData && f.Kind != impl.FrameHead {
			t.Fatalf("%#v is ok, and the last one", f)
		}
		if f.Kind == impl.FrameReset && f.Body != "" || f.Kind == impl.FrameMore && len(f.Body) != 1 || len(f.Body) > impl.FrameMax {
			t.Fatalf("%#v is ok, with such a body", f)
		}
	})
}

// Promise 50, its edges: streams of each kind.
func TestFrameOkStreams(t *testing.T) {
	bodies := map[int]string{impl.FrameData: "hi", impl.FrameHead: "\x84", impl.FrameReset: "", impl.FrameMore: "\x05"}
	for kind, body := range bodies {
		for stream := -300; stream <= 300; stream++ {
			want := stream == 1 || stream == 3 || stream == 5 || stream == 7 || stream == 0 && kind == impl.FrameMore
			f := impl.Frame{Kind: kind, Stream: stream, Body: body}
			if got := impl.FrameOk(f); got != want {
				t.Errorf("FrameOk(%#v) is %v", f, got)
			}
			if got := impl.FrameWrite(f) != ""; got != want {
				t.Errorf("FrameWrite(%#v) is something: %v", f, got)
			}
			if stream >= 0 && stream < 256 && !want {
				mustReadNoFrame(t, wantFrameWrite(f), -1)
			}
		}
	}
}

// Promise 50, its edges: which kinds may be the last, and which there are.
func TestFrameOkKinds(t *testing.T) {
	for kind := -300; kind <= 300; kind++ {
		for _, c := range []struct {
			body  string
			kinds []int
		}{{"", []int{0, 1, 3}}, {"\x01", []int{0, 1, 8}}, {"\x00", []int{0, 1}}, {"\x01\x01", []int{0, 1}}} {
			f := impl.Frame{Kind: kind, Stream: 3, Body: c.body}
			if got := impl.FrameOk(f); got != slices.Contains(c.kinds, kind) {
				t.Errorf("FrameOk(%#v) is %v", f, got)
			}
			f.Last = true
			if got := impl.FrameOk(f); got != (kind == 0 || kind == 1) {
				t.Errorf("FrameOk(%#v) is %v", f, got)
			}
		}
	}
}

// Promise 50, its edges: how long bodies may be, of each kind.
func TestFrameOkBodies(t *testing.T) {
	for size := range 600 {
		body := strings.Repeat("\x01", size)
		for _, last := range []bool{false, true} {
			for _, c := range []struct {
				kind int
				want bool
			}{{impl.FrameData, size <= 200}, {impl.FrameHead, size <= 200}, {impl.FrameReset, size == 0 && !last}, {impl.FrameMore, size == 1 && !last}} {
				f := impl.Frame{Kind: c.kind, Last: last, Stream: 5, Body: body}
				if got := impl.FrameOk(f); got != c.want {
					t.Errorf("FrameOk of kind %d, %v, with %d bytes is %v", c.kind, last, size, got)
				}
				if got := impl.FrameWrite(f) != ""; got != c.want {
					t.Errorf("FrameWrite of kind %d, %v, with %d bytes is something: %v", c.kind, last, size, got)
				}
			}
		}
	}
}

// Promise 50, its edges: how much more may be told, of all and of each stream.
func TestFrameOkMore(t *testing.T) {
	for _, stream := range []int{0, 1, 3, 5, 7} {
		for c := range 256 {
			body := string([]byte{byte(c)})
			f := impl.Frame{Kind: impl.FrameMore, Stream: stream, Body: body}
			b := "\x01\x08\x00" + string([]byte{byte(stream)}) + body
			if want := c >= 1 && c <= impl.FlowTop; !want {
				mustReadNoFrame(t, b, -1)
				if impl.FrameOk(f) || impl.FrameWrite(f) != "" {
					t.Errorf("%#v is ok", f)
				}
				continue
			}
			mustReadFrame(t, b, f)
			if !impl.FrameOk(f) || impl.FrameWrite(f) != b {
				t.Errorf("%#v is not ok, or not %x", f, b)
			}
			f.Last = true
			if impl.FrameOk(f) || impl.FrameWrite(f) != "" {
				t.Errorf("%#v is ok", f)
			}
			mustReadNoFrame(t, "\x01\x08\x01"+b[3:], -1)
			mustReadNoFrame(t, "\x00"+b[1:], -1)
			mustReadNoFrame(t, "\x02"+b[1:], 0)
			mustReadNoFrame(t, "\x02"+b[1:]+"\x00", -1)
			mustReadNoFrame(t, "\x02"+b[1:]+body, -1)
		}
	}
}

// Promise 51.
func TestFrameApart(t *testing.T) {
	written := map[string]impl.Frame{}
	all := []string{}
	for _, f := range okFrames() {
		b := impl.FrameWrite(f)
		if other, there := written[b]; there && other != f {
			t.Fatalf("%#v and %#v are both %x", f, other, b)
		} else if !there {
			all = append(all, b)
		}
		written[b] = f
		if again := impl.FrameWrite(f); again != b {
			t.Fatalf("%#v is %x, and then %x", f, b, again)
		}
	}
	// In their order, what begins with another one stands right behind it, or behind more such.
	slices.Sort(all)
	for at := 1; at < len(all); at++ {
		if strings.HasPrefix(all[at], all[at-1]) {
			t.Fatalf("%x begins with %x", all[at], all[at-1])
		}
	}
}

// Promise 52: each of 256 values at each byte of a head, with all of the body, with more behind, and cut at each place.
func TestFrameReadOtherHead(t *testing.T) {
	for _, f := range fewFrames() {
		b := wantFrameWrite(f)
		for at := range 4 {
			for c := range 256 {
				if byte(c) == b[at] {
					continue
				}
				other := b[:at] + string([]byte{byte(c)}) + b[at+1:]
				for _, behind := range []string{"", "\x00", "\x01\x00\x00\x01", strings.Repeat("\x01", 260)} {
					mustReadOtherFrame(t, other+behind, f)
				}
				for cut := range len(other) {
					mustReadOtherFrame(t, other[:cut], f)
				}
			}
		}
	}
}

// mustReadOtherFrame fails unless the bytes are read as the document says, and not as this frame.
func mustReadOtherFrame(t *testing.T, b string, f impl.Frame) {
	t.Helper()
	if got, _, is := impl.FrameRead(b); got == f && is == 1 {
		t.Fatalf("FrameRead(%x) is %#v yet", b, f)
	}
	mustReadFrameAs(t, b)
}

// Promise 52: a body too long, and a third byte that is neither 0 nor 1, are none at once; all else is told when the body is there.
func TestFrameReadAtOnce(t *testing.T) {
	for size := range 256 {
		for _, rest := range []string{"\x00\x00\x01", "\x01\x01\x07", "\x03\x00\x01", "\x08\x00\x00", "\x02\x00\x02", "\xff\x00\xff"} {
			b := string([]byte{byte(size)}) + rest
			switch {
			case size > impl.FrameMax:
				mustReadNoFrame(t, b, -1)
				mustReadNoFrame(t, b+stirred(256, 5), -1)
				mustReadNoFrame(t, b[:3], 0)
			case size > 0:
				mustReadNoFrame(t, b, 0)
				mustReadNoFrame(t, b+stirred(size-1, 5), 0)
			}
		}
	}
	for last := range 256 {
		for _, body := range []string{"", "e", "hi", stirred(200, 2)} {
			b := string([]byte{byte(len(body)), 0, byte(last), 1})
			if last > 1 {
				for cut := range len(body) + 1 {
					mustReadNoFrame(t, b+body[:cut], -1)
				}
				continue
			}
			mustReadFrame(t, b+body, impl.Frame{Last: last == 1, Stream: 1, Body: body})
			if body != "" {
				mustReadNoFrame(t, b, 0)
			}
		}
	}
}

// Promise 52: what is none by its kind, its stream, or its body, lacks bytes until the body is there.
func TestFrameReadInTheEnd(t *testing.T) {
	for _, lead := range []string{
		"\x02\x02\x00\x01", "\x02\xff\x01\x01", "\x02\x00\x00\x00", "\x02\x00\x00\x02", "\x02\x01\x01\x06", "\x02\x00\x00\x08", "\x02\x01\x00\x09", "\x02\x00\x00\xff",
		"\x02\x03\x00\x01", "\x02\x03\x01\x01", "\x02\x08\x00\x00", "\x02\x08\x00\x01", "\x02\x08\x01\x01", "\x02\x04\x00\x01", "\x02\x07\x00\x01", "\x02\x09\x00\x01",
	} {
		mustReadNoFrame(t, lead, 0)
		mustReadNoFrame(t, lead+"\x01", 0)
		mustReadNoFrame(t, lead+"\x01\x01", -1)
		mustReadNoFrame(t, lead+"\x01\x01\x00\x00\x00\x01", -1)
	}
	for _, lead := range []string{"\x01\x08\x00\x02", "\x01\x08\x01\x00", "\x01\x08\x00\x08", "\x01\x08\x00\x09", "\x01\x03\x00\x01", "\x01\x02\x00\x01"} {
		mustReadNoFrame(t, lead, 0)
		mustReadNoFrame(t, lead+"\x01", -1)
	}
	for _, b := range []string{"\x00\x03\x00\x02", "\x00\x03\x00\x00", "\x00\x03\x01\x01", "\x00\x08\x00\x00", "\x00\x08\x00\x01", "\x00\x00\x00\x00", "\x00\x01\x00\x02", "\x00\x02\x00\x01", "\x00\x00\x00\x08", "\x00\x00\x00\x09", "\x00\xff\x00\x01"} {
		mustReadNoFrame(t, b, -1)
		mustReadNoFrame(t, b+"\x01", -1)
	}
}

// What is answered shares no memory with what was given.
func TestFrameMemory(t *testing.T) {
	text := strings.Repeat("\x05\x00\x00\x01hello", 500)
	for cut := range 9 {
		if f, _, is := impl.FrameRead(text[:len(text)-cut]); is != 1 || f.Body != "hello" || liesIn(f.Body, text) {
			t.Errorf("%#v, %d shares memory with what was given", f, is)
		}
	}
	if f, _, is := impl.FrameRead(text[:9]); is != 1 || liesIn(f.Body, text) {
		t.Errorf("%#v, %d shares memory with what was given", f, is)
	}
	if b := impl.FrameWrite(impl.Frame{Stream: 1, Body: text[4:9]}); b != text[:9] || liesIn(b, text) {
		t.Errorf("%x shares memory with what was given", b)
	}
}
