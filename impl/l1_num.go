package impl

// NumMax is the greatest number that is written.
const NumMax = 9999

// How many bits of its first byte a number may have, and how many bytes at most: NumMax needs just two behind the first one.
const (
	numBitsLeast = 3
	numBitsMost  = 7
	numBytesMost = 3
)

// NumWrite is a number in the last so many bits of a byte that begins with others, and, if it must be, in more bytes.
func NumWrite(n int, bits int, head int) string {
	if n < 0 || n > NumMax || !numBitsOk(bits) || head < 0 || head > numTop(8-bits) {
		return ""
	}
	top := numTop(bits)
	ahead := head << bits
	if n < top {
		return string([]byte{byte(ahead + n)})
	}
	out := []byte{byte(ahead + top)}
	rest := n - top
	for rest >= 128 {
		out = append(out, byte(128+rest%128))
		rest /= 128
	}
	return string(append(out, byte(rest)))
}

// NumRead is the number at the beginning of bytes, in the last so many bits of the first one, and how many bytes it has.
func NumRead(b string, bits int) (int, int, bool) {
	if len(b) == 0 || !numBitsOk(bits) {
		return 0, 0, false
	}
	r := &numReader{top: numTop(bits), unit: 1}
	state := r.first
	more := true
	used := 0
	for more && used < min(len(b), numBytesMost) {
		more = state(b[used])
		state = r.later
		used++
	}
	// Other bytes may add up to the same number, but only those that are written are read.
	if more || b[:used] != NumWrite(r.num, bits, int(b[0])>>bits) {
		return 0, 0, false
	}
	return r.num, used, true
}

// numReader is a number of which some bytes were read, and what one more in the next byte counts for.
type numReader struct {
	top  int
	num  int
	unit int
}

// first reads the byte that the number shares with what is ahead, and says whether more bytes belong to it.
func (r *numReader) first(c byte) bool {
	r.num = int(c) & r.top
	return r.num == r.top
}

// later reads any other byte, and says whether more bytes belong to the number.
func (r *numReader) later(c byte) bool {
	r.num += int(c%128) * r.unit
	r.unit *= 128
	return c >= 128
}

// numBitsOk says whether a number may have so many bits of its first byte.
func numBitsOk(bits int) bool {
	return bits >= numBitsLeast && bits <= numBitsMost
}

// numTop is the greatest number of so many bits.
func numTop(bits int) int {
	return 1<<bits - 1
}
