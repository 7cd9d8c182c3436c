package tests

import (
	"math"
	"strings"
	"testing"

	"loop.example/lamson/impl"
)

const (
	bitsLeast = 3
	bitsMost  = 7
)

// topOf is the greatest number of so many bits.
func topOf(bits int) int {
	return 1<<bits - 1
}

// headsOf is how many heads fit ahead of so many bits.
func headsOf(bits int) int {
	return 256 / (topOf(bits) + 1)
}

// wantNum is what the document says of a number in bytes, worked out apart from the program.
func wantNum(n, bits, head int) string {
	top := topOf(bits)
	first := head * (top + 1)
	if n < top {
		return string([]byte{byte(first + n)})
	}
	rest := n - top
	if rest < 128 {
		return string([]byte{byte(first + top), byte(rest)})
	}
	return string([]byte{byte(first + top), byte(128 + rest%128), byte(rest / 128)})
}

// edgeNums is numbers around each place where the bytes of a number become more, and some between.
func edgeNums(bits int) []int {
	top := topOf(bits)
	return []int{
		0, 1, 2, top - 1, top, top + 1,
		top + 126, top + 127, top + 128, top + 129,
		top + 255, top + 256, 1337, 5000, impl.NumMax - 1, impl.NumMax,
	}
}

// behinds is bytes that may stand behind a number.
func behinds() []string {
	return []string{"", "\x00", "\x01", "\x7f", "\x80", "\xff", "\x80\x00", "\xff\xff\xff\xff", "text", strings.Repeat("\x80", 300)}
}

// eachNum goes through all numbers, in all bits.
func eachNum(do func(n, bits int)) {
	for bits := bitsLeast; bits <= bitsMost; bits++ {
		for n := 0; n <= impl.NumMax; n++ {
			do(n, bits)
		}
	}
}

// mustRead fails unless the number at the beginning of the bytes is n, of so many bytes.
func mustRead(t *testing.T, b string, bits, n, used int) {
	t.Helper()
	gotN, gotUsed, ok := impl.NumRead(b, bits)
	if gotN != n || gotUsed != used || !ok {
		t.Fatalf("NumRead(%x, %d) is %d, %d, %v, not %d, %d, true", b, bits, gotN, gotUsed, ok, n, used)
	}
}

// mustRefuse fails unless no number is at the beginning of the bytes, and nothing is told beside that.
func mustRefuse(t *testing.T, b string, bits int) {
	t.Helper()
	n, used, ok := impl.NumRead(b, bits)
	if n != 0 || used != 0 || ok {
		t.Fatalf("NumRead(%x, %d) is %d, %d, %v, not 0, 0, false", b, bits, n, used, ok)
	}
}

func TestNumWriteKnown(t *testing.T) {
	for _, c := range []struct {
		n, bits, head int
		want          string
	}{
		{0, 3, 0, "\x00"},
		{0, 5, 2, "\x40"},
		{6, 3, 0, "\x06"},
		{7, 3, 0, "\x07\x00"},
		{8, 3, 0, "\x07\x01"},
		{7, 3, 31, "\xff\x00"},
		{14, 4, 1, "\x1e"},
		{15, 4, 1, "\x1f\x00"},
		{16, 4, 15, "\xff\x01"},
		{10, 5, 2, "\x4a"},
		{30, 5, 7, "\xfe"},
		{31, 5, 0, "\x1f\x00"},
		{32, 5, 0, "\x1f\x01"},
		{158, 5, 0, "\x1f\x7f"},
		{159, 5, 0, "\x1f\x80\x01"},
		{1337, 5, 0, "\x1f\x9a\x0a"},
		{62, 6, 1, "\x7e"},
		{63, 6, 1, "\x7f\x00"},
		{64, 6, 3, "\xff\x01"},
		{126, 7, 0, "\x7e"},
		{127, 7, 0, "\x7f\x00"},
		{128, 7, 1, "\xff\x01"},
		{impl.NumMax, 3, 0, "\x07\x88\x4e"},
		{impl.NumMax, 5, 7, "\xff\xf0\x4d"},
		{impl.NumMax, 7, 1, "\xff\x90\x4d"},
	} {
		if got := impl.NumWrite(c.n, c.bits, c.head); got != c.want {
			t.Errorf("NumWrite(%d, %d, %d) is %x, not %x", c.n, c.bits, c.head, got, c.want)
		}
	}
}

func TestNumWriteAll(t *testing.T) {
	eachNum(func(n, bits int) {
		for head := range headsOf(bits) {
			if got, want := impl.NumWrite(n, bits, head), wantNum(n, bits, head); got != want {
				t.Fatalf("NumWrite(%d, %d, %d) is %x, not %x", n, bits, head, got, want)
			}
		}
	})
}

func TestNumWriteRefuses(t *testing.T) {
	type call struct{ n, bits, head int }
	calls := []call{}
	for bits := bitsLeast; bits <= bitsMost; bits++ {
		for _, n := range []int{math.MinInt, -impl.NumMax, -1, impl.NumMax + 1, math.MaxInt} {
			calls = append(calls, call{n, bits, 0})
		}
		for _, head := range []int{math.MinInt, -256, -1, headsOf(bits), 256, math.MaxInt} {
			calls = append(calls, call{0, bits, head}, call{topOf(bits), bits, head}, call{impl.NumMax, bits, head})
		}
	}
	for _, bits := range []int{math.MinInt, -1, 0, 1, 2, 8, 9, 63, 64, math.MaxInt} {
		calls = append(calls, call{0, bits, 0}, call{1, bits, 0}, call{impl.NumMax, bits, 0})
	}
	for _, c := range calls {
		if got := impl.NumWrite(c.n, c.bits, c.head); got != "" {
			t.Errorf("NumWrite(%d, %d, %d) is %x, not empty", c.n, c.bits, c.head, got)
		}
	}
}

// Promise 1.
func TestNumReadBack(t *testing.T) {
	eachNum(func(n, bits int) {
		for _, head := range []int{0, headsOf(bits) - 1} {
			b := impl.NumWrite(n, bits, head)
			mustRead(t, b, bits, n, len(wantNum(n, bits, head)))
			for _, behind := range behinds() {
				mustRead(t, b+behind, bits, n, len(b))
			}
		}
	})
}

// mustReadOneWay fails unless the bytes are read just if they begin with what is written of a number, and as that number.
func mustReadOneWay(t *testing.T, b string, bits int, written map[string]int) {
	t.Helper()
	for used := 1; used <= len(b); used++ {
		if n, ok := written[b[:used]]; ok {
			mustRead(t, b, bits, n, used)
			if got := impl.NumWrite(n, bits, int(b[0])>>bits); got != b[:used] {
				t.Fatalf("NumRead(%x, %d) is %d, which is written as %x", b, bits, n, got)
			}
			return
		}
	}
	mustRefuse(t, b, bits)
}

// Promise 2: all of two bytes, and all of three or four whose first one says that there are more.
func TestNumReadOneWay(t *testing.T) {
	for bits := bitsLeast; bits <= bitsMost; bits++ {
		written := map[string]int{}
		for head := range headsOf(bits) {
			for n := 0; n <= impl.NumMax; n++ {
				written[wantNum(n, bits, head)] = n
			}
		}
		for first := range 256 {
			mustReadOneWay(t, string([]byte{byte(first)}), bits, written)
			for second := range 256 {
				mustReadOneWay(t, string([]byte{byte(first), byte(second)}), bits, written)
			}
		}
		for _, head := range []int{0, 1, headsOf(bits) - 1} {
			first := head<<bits + topOf(bits)
			for tail := range 256 * 256 {
				b := string([]byte{byte(first), byte(tail / 256), byte(tail % 256)})
				mustReadOneWay(t, b, bits, written)
				mustReadOneWay(t, b+"\x00", bits, written)
				mustReadOneWay(t, b+"\x01", bits, written)
			}
		}
	}
}

// Promise 2: a nought in the last byte adds nothing, so the number is written without it; the one of just top is not such.
func TestNumReadNought(t *testing.T) {
	for bits := bitsLeast; bits <= bitsMost; bits++ {
		for head := range headsOf(bits) {
			first := string([]byte{byte(head<<bits + topOf(bits))})
			mustRead(t, first+"\x00", bits, topOf(bits), 2)
			mustRead(t, first+"\x00\x00", bits, topOf(bits), 2)
			for _, tail := range []string{"\x80\x00", "\x81\x00", "\xff\x00", "\x80\x80\x00", "\x81\x80\x00", "\x80\x81\x00", "\xff\x80\x80\x00"} {
				mustRefuse(t, first+tail, bits)
				mustRefuse(t, first+tail+"\x01", bits)
			}
		}
	}
}

// Promise 2: what is more than NumMax is not written, so it is not read.
func TestNumReadTooGreat(t *testing.T) {
	for bits := bitsLeast; bits <= bitsMost; bits++ {
		for head := range headsOf(bits) {
			mustRead(t, wantNum(impl.NumMax, bits, head), bits, impl.NumMax, 3)
			for _, n := range []int{impl.NumMax + 1, impl.NumMax + 2, impl.NumMax + 128, 16383} {
				mustRefuse(t, wantNum(n, bits, head), bits)
			}
			first := string([]byte{byte(head<<bits + topOf(bits))})
			for _, tail := range []string{"\xff\x7f", "\x80\x80\x01", "\xff\xff\x7f", strings.Repeat("\xff", 9) + "\x7f"} {
				mustRefuse(t, first+tail, bits)
			}
			for many := range 80 {
				mustRefuse(t, first+strings.Repeat("\x80", many)+"\x80\x00", bits)
				mustRefuse(t, first+strings.Repeat("\x80", many)+"\x80\x80\x01", bits)
				mustRefuse(t, first+strings.Repeat("\xff", many)+"\xff", bits)
			}
		}
	}
}

// NumRead refuses bits that NumWrite refuses.
func TestNumReadBits(t *testing.T) {
	for _, bits := range []int{math.MinInt, -1, 0, 1, 2, 8, 9, 63, 64, math.MaxInt} {
		for _, b := range append(behinds(), "\x02", "\x03\x00", "\xfe", "\xff\x00") {
			mustRefuse(t, b, bits)
		}
	}
}

// Promise 3.
func TestNumWriteLength(t *testing.T) {
	for bits := bitsLeast; bits <= bitsMost; bits++ {
		for head := range headsOf(bits) {
			before := 1
			for n := 0; n <= impl.NumMax; n++ {
				size := len(impl.NumWrite(n, bits, head))
				if n < topOf(bits) && size != 1 || n == topOf(bits) && size != 2 || size < before {
					t.Fatalf("NumWrite(%d, %d, %d) has %d bytes, of one less %d", n, bits, head, size, before)
				}
				before = size
			}
		}
	}
}

// Promise 4.
func TestNumHeads(t *testing.T) {
	eachNum(func(n, bits int) {
		plain := impl.NumWrite(n, bits, 0)
		if plain == "" {
			t.Fatalf("NumWrite(%d, %d, 0) is empty", n, bits)
		}
		for head := 1; head < headsOf(bits); head++ {
			b := impl.NumWrite(n, bits, head)
			if len(b) != len(plain) || b[1:] != plain[1:] || int(b[0]) != int(plain[0])+head<<bits {
				t.Fatalf("NumWrite(%d, %d, %d) is %x, with 0 ahead %x", n, bits, head, b, plain)
			}
			mustRead(t, b, bits, n, len(plain))
		}
	})
}

// Promise 5.
func TestNumReadCut(t *testing.T) {
	eachNum(func(n, bits int) {
		for _, head := range []int{0, headsOf(bits) - 1} {
			b := impl.NumWrite(n, bits, head)
			if n >= topOf(bits) && len(b) < 2 {
				t.Fatalf("NumWrite(%d, %d, %d) is %x", n, bits, head, b)
			}
			for size := range len(b) {
				mustRefuse(t, b[:size], bits)
			}
		}
	})
	for bits := bitsLeast; bits <= bitsMost; bits++ {
		mustRefuse(t, "", bits)
	}
}

// Promise 6.
func TestNumMoreBits(t *testing.T) {
	eachNum(func(n, bits int) {
		size := len(impl.NumWrite(n, bits, 0))
		for wider := bits + 1; wider <= bitsMost; wider++ {
			b := impl.NumWrite(n, wider, 0)
			if len(b) > size {
				t.Fatalf("%d has %d bytes in %d bits, %d in %d", n, size, bits, len(b), wider)
			}
			mustRead(t, b, wider, n, len(b))
		}
	})
}

// Promise 7.
func TestNumTwo(t *testing.T) {
	for bits := bitsLeast; bits <= bitsMost; bits++ {
		for _, one := range edgeNums(bits) {
			for _, two := range edgeNums(bits) {
				for _, head := range []int{0, headsOf(bits) - 1} {
					first := impl.NumWrite(one, bits, head)
					second := impl.NumWrite(two, bits, headsOf(bits)-1-head)
					both := first + second
					mustRead(t, both, bits, one, len(first))
					mustRead(t, both[len(first):], bits, two, len(second))
				}
			}
		}
	}
}
