package tests

import (
	"strings"
	"testing"

	"loop.example/lamson/impl"
)

// signCodes is the bits of each sign, worked out apart from the program, in the order of the signs.
var signCodes = []struct {
	sign byte
	code string
}{
	{'e', "00000"}, {'t', "00001"}, {'a', "00010"}, {'o', "00011"},
	{'i', "00100"}, {'n', "00101"}, {'s', "00110"}, {'r', "00111"},
	{'h', "01000"}, {'l', "01001"}, {'0', "01010"}, {'1', "01011"},
	{'2', "01100"}, {'3', "01101"}, {'4', "01110"}, {'5', "01111"},
	{'6', "10000"}, {'7', "10001"}, {'8', "10010"}, {'9', "10011"},
	{'d', "10100"}, {'c', "10101"}, {'u', "10110"}, {'m', "10111"},
	{'f', "1100000"}, {'p', "1100001"}, {'g', "1100010"}, {'w', "1100011"},
	{'y', "1100100"}, {'b', "1100101"}, {'v', "1100110"}, {'k', "1100111"},
	{'x', "1101000"}, {'j', "1101001"}, {'q', "1101010"}, {'z', "1101011"},
	{':', "1101100"}, {'/', "1101101"}, {'-', "1101110"},
}

// codeOf is the bits of a sign, empty if it is none.
func codeOf(sign byte) string {
	for _, s := range signCodes {
		if s.sign == sign {
			return s.code
		}
	}
	return ""
}

// bitsOf is the bits of a word, with nothing that fills.
func bitsOf(w string) string {
	bits := ""
	for i := range len(w) {
		bits += codeOf(w[i])
	}
	return bits
}

// bytesOf is bits in bytes; their number must be one that fills bytes.
func bytesOf(bits string) string {
	out := []byte{}
	for ; bits != ""; bits = bits[8:] {
		c := byte(0)
		for i := range 8 {
			c = c*2 + bits[i] - '0'
		}
		out = append(out, c)
	}
	return string(out)
}

// wantPack is what the document says of a word in bits.
func wantPack(w string) string {
	bits := bitsOf(w)
	for len(bits)%8 != 0 {
		bits += "1"
	}
	return bytesOf(bits)
}

// wantOk is what the document says of a word.
func wantOk(w string) bool {
	for i := range len(w) {
		if codeOf(w[i]) == "" {
			return false
		}
	}
	return len(w) <= 16
}

// textBits is all bits of bytes.
func textBits(b string) string {
	bits := []byte{}
	for i := range len(b) {
		for unit := 128; unit > 0; unit /= 2 {
			bits = append(bits, '0'+byte(int(b[i])/unit%2))
		}
	}
	return string(bits)
}

// wantUnpack is the word of the bits, if there is one: sign by sign, and at most seven ones behind.
func wantUnpack(b string) (string, bool) {
	bits := textBits(b)
	w := ""
	for len(w) <= 16 {
		found := false
		for _, s := range signCodes {
			if strings.HasPrefix(bits, s.code) {
				w += string([]byte{s.sign})
				bits = bits[len(s.code):]
				found = true
				break
			}
		}
		if !found {
			break
		}
	}
	if len(w) > 16 || len(bits) > 7 || strings.Contains(bits, "0") {
		return "", false
	}
	return w, true
}

// smallWords is all words of at most so many signs.
func smallWords(most int) []string {
	words := []string{""}
	from := 0
	for range most {
		to := len(words)
		for _, w := range words[from:to] {
			for _, s := range signCodes {
				words = append(words, w+string([]byte{s.sign}))
			}
		}
		from = to
	}
	return words
}

// mixedWord is a word of so many signs, so many of which have seven bits; turn says where these stand, and which signs they are.
func mixedWord(size, long, turn int) string {
	out := make([]byte, size)
	for i := range size {
		out[i] = signCodes[(i*5+turn)%24].sign
	}
	for i := range long {
		out[(i+turn*3)%size] = signCodes[24+(i*4+turn)%15].sign
	}
	return string(out)
}

// someWords is words of each length, with each number of signs of seven bits, so that each number of bits is there; the first and the last sign of each length of bits; and ordinary ones.
func someWords() []string {
	words := []string{"", "/echo", "/up", "/len", ":path", ":status", "kind", "text", "size", "te", "trailers", "hello", "0", "12", "9999", "a-b:c/d", "-/:zqjx", "0123456789"}
	for size := 1; size <= 16; size++ {
		for _, sign := range []string{"e", "m", "f", "-"} {
			words = append(words, strings.Repeat(sign, size))
		}
		for long := 0; long <= size; long++ {
			for turn := range 3 {
				words = append(words, mixedWord(size, long, turn))
			}
		}
	}
	return words
}

// otherSigns is all bytes that are no sign.
func otherSigns() []string {
	other := []string{}
	for c := range 256 {
		if codeOf(byte(c)) == "" {
			other = append(other, string([]byte{byte(c)}))
		}
	}
	return other
}

// badWords is what is no ok word: with a sign that is none, at the beginning, within and at the end, and too long.
func badWords() []string {
	bad := []string{
		strings.Repeat("e", 17), strings.Repeat("-", 17), mixedWord(17, 5, 0), strings.Repeat("e", 18),
		strings.Repeat("e", 32), strings.Repeat("e", 256), strings.Repeat("e", 272), strings.Repeat("-", 5000),
	}
	for _, sign := range otherSigns() {
		for _, w := range []string{"", "e", "text", "a-b:c/d", mixedWord(15, 4, 1)} {
			bad = append(bad, sign+w, w[:len(w)/2]+sign+w[len(w)/2:], w+sign)
		}
	}
	return bad
}

// mustUnpack fails unless the bytes unpack to the word.
func mustUnpack(t *testing.T, b, w string) {
	t.Helper()
	if got, ok := impl.WordUnpack(b); got != w || !ok {
		t.Fatalf("WordUnpack(%x) is %q, %v, not %q, true", b, got, ok, w)
	}
}

// mustNotUnpack fails unless the bytes are no word's, and nothing is told beside that.
func mustNotUnpack(t *testing.T, b string) {
	t.Helper()
	if got, ok := impl.WordUnpack(b); got != "" || ok {
		t.Fatalf("WordUnpack(%x) is %q, %v, not empty and false", b, got, ok)
	}
}

// mustUnpackAs fails unless the bytes unpack as the document says; the bits are then those of the word alone.
func mustUnpackAs(t *testing.T, b string) {
	t.Helper()
	w, ok := wantUnpack(b)
	if !ok {
		mustNotUnpack(t, b)
		return
	}
	mustUnpack(t, b, w)
	if !impl.WordOk(w) || impl.WordPack(w) != b {
		t.Fatalf("WordUnpack(%x) is %q: %v, packed %x", b, w, impl.WordOk(w), impl.WordPack(w))
	}
}

// mustReadWord fails unless the word is at the beginning of the bytes, and has so many of them.
func mustReadWord(t *testing.T, b, w string, used int) {
	t.Helper()
	got, gotUsed, ok := impl.WordRead(b)
	if got != w || gotUsed != used || !ok {
		t.Fatalf("WordRead(%x) is %q, %d, %v, not %q, %d, true", b, got, gotUsed, ok, w, used)
	}
}

// mustReadNoWord fails unless no word is at the beginning of the bytes, and nothing is told beside that.
func mustReadNoWord(t *testing.T, b string) {
	t.Helper()
	w, used, ok := impl.WordRead(b)
	if w != "" || used != 0 || ok {
		t.Fatalf("WordRead(%x) is %q, %d, %v, not empty, 0, false", b, w, used, ok)
	}
}

// wantReadWord is what the document says of bytes that may begin with a word. A first byte of 17 or more, 128 apart, tells of too many.
func wantReadWord(b string) (string, int, bool) {
	if b == "" || b[0]%128 > 16 || len(b) < 1+int(b[0]%128) {
		return "", 0, false
	}
	used := 1 + int(b[0]%128)
	w, ok := b[1:used], wantOk(b[1:used])
	if b[0] >= 128 {
		w, ok = wantUnpack(b[1:used])
	}
	if !ok {
		return "", 0, false
	}
	return w, used, true
}

// flips is the bytes, with each one of their bits another one.
func flips(b string) []string {
	out := []string{}
	for i := range len(b) {
		for bit := range 8 {
			c := b[i] ^ 1<<bit
			out = append(out, b[:i]+string([]byte{c})+b[i+1:])
		}
	}
	return out
}

// stirred is bytes without any plan, the same in each run.
func stirred(size int, seed uint32) string {
	out := make([]byte, size)
	for i := range size {
		seed = seed*1664525 + 1013904223
		out[i] = byte(seed >> 24)
	}
	return string(out)
}

func TestWordPackKnown(t *testing.T) {
	for _, c := range []struct{ w, packed string }{
		{"", ""},
		{"e", "\x07"},
		{"m", "\xbf"},
		{"f", "\xc1"},
		{"-", "\xdd"},
		{"eee", "\x00\x01"},
		{"5", "\x7f"},
		{"ffffffff", "\xc1\x83\x06\x0c\x18\x30\x60"},
		{"eeeeeeee", "\x00\x00\x00\x00\x00"},
		{"--", "\xdd\xbb"},
		{"te", "\x08\x3f"},
		{"/up", "\xdb\x6c\x3f"},
		{strings.Repeat("m", 16), "\xbd\xef\x7b\xde\xf7\xbd\xef\x7b\xde\xf7"},
		{strings.Repeat("-", 16), "\xdd\xbb\x76\xed\xdb\xb7\x6e\xdd\xbb\x76\xed\xdb\xb7\x6e"},
	} {
		if got := impl.WordPack(c.w); got != c.packed {
			t.Errorf("WordPack(%q) is %x, not %x", c.w, got, c.packed)
		}
		mustUnpack(t, c.packed, c.w)
	}
}

func TestWordWriteKnown(t *testing.T) {
	for _, c := range []struct{ w, written string }{
		{"", "\x00"},
		{"e", "\x01e"},
		{"12", "\x0212"},
		{"--", "\x02--"},
		{"eee", "\x82\x00\x01"},
		{"/up", "\x03/up"},
		{"ffffffff", "\x87\xc1\x83\x06\x0c\x18\x30\x60"},
		{strings.Repeat("m", 16), "\x8a\xbd\xef\x7b\xde\xf7\xbd\xef\x7b\xde\xf7"},
		{strings.Repeat("-", 16), "\x8e\xdd\xbb\x76\xed\xdb\xb7\x6e\xdd\xbb\x76\xed\xdb\xb7\x6e"},
	} {
		if got := impl.WordWrite(c.w); got != c.written {
			t.Errorf("WordWrite(%q) is %x, not %x", c.w, got, c.written)
		}
		mustReadWord(t, c.written, c.w, len(c.written))
	}
}

func TestWordSigns(t *testing.T) {
	if len(signCodes) != 39 || len(impl.WordSigns) != 39 || impl.WordMax != 16 {
		t.Fatal(len(signCodes), len(impl.WordSigns), impl.WordMax)
	}
	for at, s := range signCodes {
		if impl.WordSigns[at] != s.sign {
			t.Errorf("the sign at %d is %q, not %q", at, impl.WordSigns[at], s.sign)
		}
	}
}

// The words of the tests have what the edges ask for: bits that just fill a byte, and those that leave each number of bits.
func TestWordsLeaveAllBits(t *testing.T) {
	left := map[int]int{}
	for _, w := range someWords() {
		left[len(bitsOf(w))%8]++
	}
	for bits := range 8 {
		if left[bits] < 10 {
			t.Errorf("%d words leave %d bits", left[bits], bits)
		}
	}
}

// Promise 8.
func TestWordOkPieces(t *testing.T) {
	for _, w := range someWords() {
		for cut := 0; cut <= len(w); cut++ {
			if !impl.WordOk(w[:cut]) || !impl.WordOk(w[cut:]) {
				t.Fatalf("of %q at %d: %v, %v", w, cut, impl.WordOk(w[:cut]), impl.WordOk(w[cut:]))
			}
		}
	}
	for _, w := range []string{"", "e", "text", mixedWord(14, 3, 0), mixedWord(15, 4, 1)} {
		for _, sign := range otherSigns() {
			for at := 0; at <= len(w); at++ {
				if impl.WordOk(w[:at] + sign + w[at:]) {
					t.Fatalf("%q is ok", w[:at]+sign+w[at:])
				}
			}
		}
	}
}

// Promise 8: all bytes as a word, and the lengths around the greatest.
func TestWordOkEdges(t *testing.T) {
	for c := range 256 {
		if got, want := impl.WordOk(string([]byte{byte(c)})), codeOf(byte(c)) != ""; got != want {
			t.Errorf("WordOk of byte %d is %v", c, got)
		}
	}
	for _, s := range signCodes {
		sign := string([]byte{s.sign})
		for _, size := range []int{0, 1, 15, 16, 17, 18, 32, 255, 256, 257, 272} {
			if got := impl.WordOk(strings.Repeat(sign, size)); got != (size <= 16) {
				t.Errorf("WordOk of %d times %q is %v", size, sign, got)
			}
		}
	}
	for _, w := range []string{"E", "ä", "e\x00", "\x00", " ", "e e", "e\n", "\u0435", "_", ".", "e\u0301"} {
		if impl.WordOk(w) {
			t.Errorf("%q is ok", w)
		}
	}
}

func TestWordsNotOk(t *testing.T) {
	for _, w := range badWords() {
		if impl.WordOk(w) || impl.WordPack(w) != "" || impl.WordWrite(w) != "" {
			t.Fatalf("%q: %v, %x, %x", w, impl.WordOk(w), impl.WordPack(w), impl.WordWrite(w))
		}
	}
}

// Promise 9.
func TestWordUnpackBack(t *testing.T) {
	for _, w := range append(smallWords(3), someWords()...) {
		packed := impl.WordPack(w)
		if packed != wantPack(w) {
			t.Fatalf("WordPack(%q) is %x, not %x", w, packed, wantPack(w))
		}
		if need := (len(bitsOf(w)) + 7) / 8; len(packed) != need {
			t.Fatalf("WordPack(%q) has %d bytes, not %d", w, len(packed), need)
		}
		mustUnpack(t, packed, w)
	}
}

// Promise 10: all of one byte and of two.
func TestWordUnpackOneWay(t *testing.T) {
	mustUnpackAs(t, "")
	for first := range 256 {
		mustUnpackAs(t, string([]byte{byte(first)}))
		for second := range 256 {
			mustUnpackAs(t, string([]byte{byte(first), byte(second)}))
		}
	}
}

// Promise 10: words with one bit another one, which are other words or none, and with a byte less or more.
func TestWordUnpackNear(t *testing.T) {
	for _, w := range someWords() {
		packed := wantPack(w)
		for _, b := range flips(packed) {
			mustUnpackAs(t, b)
		}
		if packed != "" {
			mustUnpackAs(t, packed[1:])
			mustUnpackAs(t, packed[:len(packed)-1])
		}
		for c := range 256 {
			mustUnpackAs(t, packed+string([]byte{byte(c)}))
		}
	}
}

// Promise 10: bytes without any plan.
func TestWordUnpackStirred(t *testing.T) {
	for seed := range 3000 {
		b := stirred(seed%18, uint32(seed))
		mustUnpackAs(t, b)
		if b != "" {
			mustUnpackAs(t, b[:len(b)-1]+"\xff")
			mustUnpackAs(t, b[:len(b)-1]+string([]byte{b[len(b)-1] | 7}))
		}
	}
}

// Promise 10: seven bits of a place that no sign has, ahead of and behind signs, are none.
func TestWordUnpackNoSign(t *testing.T) {
	for num := 111; num <= 127; num++ {
		none := textBits(string([]byte{byte(num)}))[1:]
		for ahead := range 9 {
			for behind := range 3 {
				bits := strings.Repeat("00000", ahead) + none + strings.Repeat("00000", behind)
				if num == 127 && behind == 0 {
					bits += "0"
				}
				for len(bits)%8 != 0 {
					bits += "1"
				}
				mustNotUnpack(t, bytesOf(bits))
			}
		}
	}
}

// Promise 10: more signs than a word may have, and more bytes.
func TestWordUnpackTooLong(t *testing.T) {
	for _, sign := range []string{"e", "m", "f", "-", "5"} {
		mustUnpack(t, wantPack(strings.Repeat(sign, 15)), strings.Repeat(sign, 15))
		mustUnpack(t, wantPack(strings.Repeat(sign, 16)), strings.Repeat(sign, 16))
		for size := 17; size <= 300; size++ {
			mustNotUnpack(t, wantPack(strings.Repeat(sign, size)))
		}
	}
	for size := 11; size <= 40; size++ {
		mustNotUnpack(t, strings.Repeat("\x00", size))
		mustNotUnpack(t, wantPack(mixedWord(16, 16, 0))+strings.Repeat("\xff", size-10))
	}
	mustNotUnpack(t, strings.Repeat("\x00", 100000))
	mustNotUnpack(t, strings.Repeat("\xff", 100000))
}

// Promise 11.
func TestWordPackApart(t *testing.T) {
	words := map[string]string{}
	for _, w := range append(smallWords(3), someWords()...) {
		packed := impl.WordPack(w)
		if other, ok := words[packed]; ok && other != w {
			t.Fatalf("%q and %q are both packed as %x", w, other, packed)
		}
		if (packed == "") != (w == "") {
			t.Fatalf("WordPack(%q) is %x", w, packed)
		}
		if again := impl.WordPack(w); again != packed {
			t.Fatalf("WordPack(%q) is %x, and then %x", w, packed, again)
		}
		words[packed] = w
	}
}

// Promise 12: what fills is fewer than eight ones, and nothing else.
func TestWordUnpackFill(t *testing.T) {
	for _, w := range append(smallWords(2), someWords()...) {
		packed := impl.WordPack(w)
		for _, ones := range []string{"\xff", "\xff\xff", "\xff\xff\xff\xff"} {
			mustNotUnpack(t, packed+ones)
		}
		if len(bitsOf(w))%8 != 0 {
			last := len(packed) - 1
			mustNotUnpack(t, packed[:last]+string([]byte{packed[last] ^ 1}))
		}
		fill := 8*len(packed) - len(bitsOf(w))
		for noughts := 1; noughts <= fill; noughts++ {
			bits := textBits(packed)
			mustUnpackAs(t, bytesOf(bits[:len(bits)-noughts]+strings.Repeat("0", noughts)))
		}
	}
	mustNotUnpack(t, "\x00")
	mustNotUnpack(t, "\x00\x00")
	mustNotUnpack(t, "\xff")
}

// Promise 13.
func TestWordReadBack(t *testing.T) {
	for _, w := range append(smallWords(3), someWords()...) {
		written := impl.WordWrite(w)
		if written == "" {
			t.Fatalf("WordWrite(%q) is empty", w)
		}
		for _, behind := range behinds() {
			mustReadWord(t, written+behind, w, len(written))
		}
	}
}

// Promise 14.
func TestWordWriteShorter(t *testing.T) {
	packs := 0
	for _, w := range append(smallWords(3), someWords()...) {
		want := string([]byte{byte(len(w))}) + w
		if packed := wantPack(w); len(packed) < len(w) {
			want = string([]byte{byte(128 + len(packed))}) + packed
			packs++
		}
		if got := impl.WordWrite(w); got != want {
			t.Fatalf("WordWrite(%q) is %x, not %x", w, got, want)
		}
	}
	if packs == 0 {
		t.Error("no word is packed")
	}
}

// Promise 15: words that are written in the one form are read in the other one, too.
func TestWordReadBothForms(t *testing.T) {
	for _, w := range append(smallWords(2), someWords()...) {
		plain := string([]byte{byte(len(w))}) + w
		packed := string([]byte{byte(128 + len(wantPack(w)))}) + wantPack(w)
		for _, behind := range behinds() {
			mustReadWord(t, plain+behind, w, len(plain))
			mustReadWord(t, packed+behind, w, len(packed))
		}
	}
	mustReadWord(t, "\x00", "", 1)
	mustReadWord(t, "\x80", "", 1)
}

// mustReadWordAs fails unless bytes are read as the document says, and what is read is written no longer.
func mustReadWordAs(t *testing.T, b string) {
	t.Helper()
	w, used, ok := wantReadWord(b)
	if !ok {
		mustReadNoWord(t, b)
		return
	}
	mustReadWord(t, b, w, used)
	if written := impl.WordWrite(w); !impl.WordOk(w) || used > len(b) || written == "" || len(written) > used {
		t.Fatalf("WordRead(%x) is %q, %d; written again %x", b, w, used, written)
	}
}

// Promise 16: all of at most two bytes, and all of three whose first one says that there are one or two behind.
func TestWordReadAll(t *testing.T) {
	mustReadWordAs(t, "")
	for first := range 256 {
		mustReadWordAs(t, string([]byte{byte(first)}))
		for second := range 256 {
			mustReadWordAs(t, string([]byte{byte(first), byte(second)}))
		}
	}
	for _, first := range []byte{1, 2, 129, 130} {
		for tail := range 256 * 256 {
			mustReadWordAs(t, string([]byte{first, byte(tail / 256), byte(tail % 256)}))
		}
	}
}

// Promise 16: bytes near words, with a bit another one, and bytes without any plan.
func TestWordReadNear(t *testing.T) {
	for _, w := range someWords() {
		for _, b := range flips(impl.WordWrite(w)) {
			mustReadWordAs(t, b)
			mustReadWordAs(t, b+"eeeeeeeeeeeeeeeeeeeeeeee")
		}
	}
	for seed := range 3000 {
		b := stirred(seed%40, uint32(seed))
		mustReadWordAs(t, b)
		for _, first := range []int{seed % 17, 128 + seed%17} {
			mustReadWordAs(t, string([]byte{byte(first)})+b)
		}
	}
}

// Wrong inputs: a number that is too great, however it is written, though so many bytes are there.
func TestWordReadTooLong(t *testing.T) {
	for size := 17; size <= 126; size++ {
		mustReadNoWord(t, string([]byte{byte(size)})+strings.Repeat("e", 200))
		mustReadNoWord(t, string([]byte{byte(128 + size)})+strings.Repeat("\x00", 200))
		mustReadNoWord(t, string([]byte{byte(128 + size)})+wantPack(strings.Repeat("e", 16))+strings.Repeat("\xff", 200))
	}
	for _, first := range []string{"\x7f", "\xff"} {
		for _, more := range []string{"", "\x00", "\x01", "\x7f", "\x80\x00", "\x80\x01", "\x80", "\xff", "\x90\x4d", "\xff\x7f", "\x80\x80\x80\x01"} {
			mustReadNoWord(t, first+more)
			mustReadNoWord(t, first+more+strings.Repeat("e", 20000))
		}
	}
	for _, sign := range []string{"e", "m", "f", "-"} {
		mustReadWord(t, "\x10"+strings.Repeat(sign, 40), strings.Repeat(sign, 16), 17)
		mustReadNoWord(t, "\x11"+strings.Repeat(sign, 40))
	}
	mustReadNoWord(t, "\x8b"+strings.Repeat("\x00", 11))
	mustReadNoWord(t, "\x90"+strings.Repeat("\x00", 16))
	mustReadNoWord(t, "\x90"+strings.Repeat("\xff", 16))
	mustReadNoWord(t, "\x91"+strings.Repeat("\xff", 17))
}

// Wrong inputs: bytes that are no word, of the length that is told.
func TestWordReadNoWord(t *testing.T) {
	for _, w := range badWords() {
		if len(w) <= 16 {
			mustReadNoWord(t, string([]byte{byte(len(w))})+w)
			mustReadNoWord(t, string([]byte{byte(len(w))})+w+"eeee")
		}
	}
	for _, w := range someWords() {
		if packed := wantPack(w) + "\xff"; len(packed) <= 16 {
			mustReadNoWord(t, string([]byte{byte(128 + len(packed))})+packed)
			mustReadWord(t, string([]byte{byte(127 + len(packed))})+packed, w, len(packed))
		}
	}
}

// Promise 17.
func TestWordPackLength(t *testing.T) {
	for _, w := range append(smallWords(2), someWords()...) {
		size := len(impl.WordPack(w))
		if size > len(w) {
			t.Fatalf("WordPack(%q) has %d bytes", w, size)
		}
		for _, s := range signCodes {
			more := w + string([]byte{s.sign})
			if got := len(impl.WordPack(more)); len(more) <= 16 && got < size {
				t.Fatalf("WordPack(%q) has %d bytes, of %q %d", more, got, w, size)
			}
		}
	}
}

// Promise 18.
func TestWordPackBeginnings(t *testing.T) {
	for _, w := range append(smallWords(3), someWords()...) {
		packed := impl.WordPack(w)
		for cut := 1; cut <= len(w); cut++ {
			part := impl.WordPack(w[:cut])
			if part == "" || !strings.HasPrefix(packed, part[:len(part)-1]) {
				t.Fatalf("WordPack(%q) is %x, of %q %x", w, packed, w[:cut], part)
			}
		}
	}
}

// Promise 19.
func TestWordTwo(t *testing.T) {
	words := someWords()
	for _, one := range words {
		first := impl.WordWrite(one)
		for at := 0; at < len(words); at += 3 {
			second := impl.WordWrite(words[at])
			both := first + second
			mustReadWord(t, both, one, len(first))
			mustReadWord(t, both[len(first):], words[at], len(second))
		}
	}
}

// Promise 20.
func TestWordReadCut(t *testing.T) {
	for _, w := range append(smallWords(3), someWords()...) {
		written := impl.WordWrite(w)
		for cut := range len(written) {
			mustReadNoWord(t, written[:cut])
		}
		mustReadWord(t, written, w, len(written))
	}
	mustReadNoWord(t, "")
}
