package tests

import (
	"math"
	"slices"
	"strings"
	"testing"

	"loop.example/lamson/impl"
)

// wantWriteWord is what the document says of an ok word in bytes.
func wantWriteWord(w string) string {
	if packed := wantPack(w); len(packed) < len(w) {
		return string([]byte{byte(128 + len(packed))}) + packed
	}
	return string([]byte{byte(len(w))}) + w
}

// wantNamed is what the document says of a field with its name, the first byte being so much more than the place; no place is more than 18.
func wantNamed(place, first, top int, f impl.Field) string {
	out := string([]byte{byte(first + place)})
	if place >= top {
		out = string([]byte{byte(first + top), byte(place - top)})
	}
	if place == 0 {
		out += wantWriteWord(f.Name)
	}
	return out + wantWriteWord(f.Val)
}

// wantHeadWrite is what the document says of an ok head in bytes, by an ok table, and of the fields of the table then.
func wantHeadWrite(table impl.Table, head []impl.Field) ([]impl.Field, string) {
	fields, out := table.Fields, ""
	for _, f := range head {
		place, all := wantFind(impl.Table{Fields: fields}, f)
		switch {
		case f.Never:
			out += wantNamed(place, 16, 15, f)
		case all:
			out += string([]byte{byte(128 + place)})
		default:
			out += wantNamed(place, 64, 63, f)
			fields = wantFit(ahead(f, fields), table.Max)
		}
	}
	return fields, out
}

// wantPlace is the place in the first bytes, and how many these are; one that needs more than two bytes is none of a table, as is any of 63 and more.
func wantPlace(b string, first, top int) (int, int, bool) {
	place := int(b[0]) - first
	if place < top {
		return place, 1, true
	}
	if top != 15 || len(b) < 2 || b[1] >= 128 {
		return 0, 0, false
	}
	return 15 + int(b[1]), 2, true
}

// wantField is what the document says of the field at the beginning of bytes, how many bytes it has, and whether the table then has it.
func wantField(places []impl.Field, b string) (impl.Field, int, bool, bool) {
	first, top, never := 64, 63, false
	switch c := b[0]; {
	case c >= 128:
		if place := int(c) - 128; place >= 1 && place <= len(places) {
			return places[place-1], 1, false, true
		}
		return impl.Field{}, 0, false, false
	case c < 16 || c >= 32 && c < 64:
		return impl.Field{}, 0, false, false
	case c < 32:
		first, top, never = 16, 15, true
	}
	place, used, ok := wantPlace(b, first, top)
	if !ok || place > len(places) {
		return impl.Field{}, 0, false, false
	}
	f := impl.Field{Never: never}
	if place > 0 {
		f.Name = places[place-1].Name
	} else {
		name, more, ok := wantReadWord(b[used:])
		if !ok || name == "" {
			return impl.Field{}, 0, false, false
		}
		f.Name, used = name, used+more
	}
	val, more, ok := wantReadWord(b[used:])
	f.Val = val
	return f, used + more, !never, ok
}

// wantHeadRead is what the document says of bytes that may be a head by an ok table: the fields of the table then, and the head; and where each field ends.
func wantHeadRead(table impl.Table, b string) ([]impl.Field, []impl.Field, []int, bool) {
	fields, head, ends := table.Fields, []impl.Field{}, []int{}
	for at := 0; at < len(b); {
		f, used, added, ok := wantField(slices.Concat(fixedFields, fields), b[at:])
		if !ok {
			return nil, nil, nil, false
		}
		if added {
			fields = wantFit(ahead(f, fields), table.Max)
		}
		at += used
		head, ends = append(head, f), append(ends, at)
	}
	if len(head) > 6 || len(b) > 250 {
		return nil, nil, nil, false
	}
	return fields, head, ends, true
}

// rowTable is a table of so many fields of the least size, each with a name of its own.
func rowTable(count int) impl.Table {
	table := impl.Table{Max: 64}
	for at := range count {
		table.Fields = append(table.Fields, impl.Field{Name: string(impl.WordSigns[at+10])})
	}
	return table
}

// headTables is ok tables of all kinds, and some with each number of places.
func headTables() []impl.Table {
	tables := fewTables()
	for count := 1; count <= 12; count++ {
		full := rowTable(count)
		tables = append(tables, full, impl.Table{Fields: full.Fields, Max: 5 * count})
	}
	return tables
}

// never is the field, as one that no table may keep.
func never(f impl.Field) impl.Field {
	return impl.Field{Name: f.Name, Val: f.Val, Never: true}
}

// ownHeads is heads of what stands in a table, of some near that, and of what pushes it out.
func ownHeads(table impl.Table) [][]impl.Field {
	heads := [][]impl.Field{}
	for _, f := range table.Fields {
		near := impl.Field{Name: f.Name, Val: "none-such"}
		big := impl.Field{Name: f.Name, Val: strings.Repeat("9", 16)}
		heads = append(heads,
			[]impl.Field{f}, []impl.Field{never(f)}, []impl.Field{near}, []impl.Field{never(near)},
			[]impl.Field{near, f, near}, []impl.Field{never(f), near, f}, []impl.Field{big, f, never(f), big, f},
			[]impl.Field{sizedField(36, 2), f, sizedField(28, 1), near, f, never(near)})
	}
	last := table.Fields[max(0, len(table.Fields)-6):]
	back := slices.Clone(last)
	slices.Reverse(back)
	return append(heads, last, back, table.Fields[:min(6, len(table.Fields))])
}

// anyHeads is heads of each number of fields, of all kinds; turn says which.
func anyHeads(turn int) [][]impl.Field {
	fields := okFields()
	heads := [][]impl.Field{nil, {}}
	for count := 1; count <= 6; count++ {
		for part := range 3 {
			head := []impl.Field{}
			for at := range count {
				head = append(head, fields[(turn*31+part*17+at*(7+turn%5)+count)%len(fields)])
			}
			heads = append(heads, head)
		}
	}
	f := fields[turn%len(fields)]
	return append(heads, []impl.Field{f, f}, []impl.Field{never(f), kept(f), never(f), kept(f)}, slices.Repeat([]impl.Field{f}, 6))
}

// eachHead goes through tables, and heads that are written by them.
func eachHead(do func(table impl.Table, head []impl.Field)) {
	for turn, table := range headTables() {
		for _, head := range append(ownHeads(table), anyHeads(turn)...) {
			do(table, head)
		}
	}
}

// mustWriteHead fails unless the head is just such bytes, and leaves such a table.
func mustWriteHead(t *testing.T, table impl.Table, head []impl.Field, fields []impl.Field, b string) {
	t.Helper()
	behind, got := impl.HeadWrite(table, head)
	if got != b {
		t.Fatalf("HeadWrite(%v, %v) is %x, not %x", table, head, got, b)
	}
	mustBeTable(t, "the table behind HeadWrite", behind, fields, table.Max)
}

// mustReadHead fails unless the bytes are just such a head, and leave such a table.
func mustReadHead(t *testing.T, table impl.Table, b string, fields []impl.Field, head []impl.Field) {
	t.Helper()
	behind, got, ok := impl.HeadRead(table, b)
	if !slices.Equal(got, head) || !ok {
		t.Fatalf("HeadRead(%v, %x) is %v, %v, not %v, true", table, b, got, ok, head)
	}
	mustBeTable(t, "the table behind HeadRead", behind, fields, table.Max)
}

// mustWriteNoHead fails unless nothing is written.
func mustWriteNoHead(t *testing.T, table impl.Table, head []impl.Field) {
	t.Helper()
	behind, got := impl.HeadWrite(table, head)
	if got != "" {
		t.Fatalf("HeadWrite(%v, %v) is %x, not nothing", table, head, got)
	}
	mustBeNoTable(t, "the table behind HeadWrite", behind)
}

// mustReadNoHead fails unless the bytes are no head, and nothing is told beside that.
func mustReadNoHead(t *testing.T, table impl.Table, b string) {
	t.Helper()
	behind, got, ok := impl.HeadRead(table, b)
	if len(got) != 0 || ok {
		t.Fatalf("HeadRead(%v, %x) is %v, %v, not nothing and false", table, b, got, ok)
	}
	mustBeNoTable(t, "the table behind HeadRead", behind)
}

// mustReadHeadAs fails unless the bytes are read as the document says.
func mustReadHeadAs(t *testing.T, table impl.Table, b string) bool {
	t.Helper()
	fields, head, _, ok := wantHeadRead(table, b)
	if !ok {
		mustReadNoHead(t, table, b)
		return false
	}
	mustReadHead(t, table, b, fields, head)
	return true
}

func TestHeadKnown(t *testing.T) {
	table := impl.Table{Max: 64}
	head := []impl.Field{{Name: "kind", Val: "text"}, {Name: "size", Val: "12"}, {Name: "a", Val: "1", Never: true}}
	mustWriteHead(t, table, head, []impl.Field{{Name: "size", Val: "12"}}, "\x84\x45\x0212\x10\x01a\x011")
	mustReadHead(t, table, "\x84\x45\x0212\x10\x01a\x011", []impl.Field{{Name: "size", Val: "12"}}, head)
	then, _ := impl.HeadWrite(table, head)
	mustWriteHead(t, then, head, then.Fields, "\x84\x87\x10\x01a\x011")
	call := []impl.Field{{Name: ":path", Val: "/up"}, {Name: "kind", Val: "text"}, {Name: "size", Val: "3"}}
	mustWriteHead(t, table, call, []impl.Field{{Name: "size", Val: "3"}, {Name: ":path", Val: "/up"}}, "\x41\x03/up\x84\x45\x013")
	own := []impl.Field{{Name: "eee", Val: "eee"}}
	mustWriteHead(t, table, own, own, "\x40\x82\x00\x01\x82\x00\x01")
	mustWriteHead(t, table, []impl.Field{never(own[0])}, nil, "\x10\x82\x00\x01\x82\x00\x01")
	if impl.HeadMax != 6 {
		t.Error(impl.HeadMax)
	}
}

// The heads and tables of the tests have what the edges ask for.
func TestHeadEdgesAreThere(t *testing.T) {
	seen := map[string]int{}
	note := func(what string, is bool) {
		if is {
			seen[what]++
		}
	}
	counts := map[int]int{}
	eachHead(func(table impl.Table, head []impl.Field) {
		counts[len(head)]++
		note("no room", table.Max == 0 && len(head) > 0)
		note("all room", table.Max == 64)
		fields := table.Fields
		for _, f := range head {
			place, all := wantFind(impl.Table{Fields: fields}, f)
			note("never, fixed", f.Never && all && place <= 6)
			note("never, in the table", f.Never && all && place > 6)
			note("never, a second byte", f.Never && place >= 15)
			note("never, the last without one", f.Never && place == 14)
			note("never, a name of its own", f.Never && place == 0)
			note("the last place", all && !f.Never && place == 18)
			note("the name alone", !all && !f.Never && place > 6)
			if f.Never || all {
				continue
			}
			then := wantFit(ahead(f, fields), table.Max)
			note("no fit", len(then) == 0 && len(fields) > 0)
			note("pushes out its name", place > 6 && place-6 >= len(then) && len(then) > 0)
			fields = then
		}
	})
	for _, what := range []string{
		"no room", "all room", "never, fixed", "never, in the table", "never, a second byte", "never, the last without one",
		"never, a name of its own", "the last place", "the name alone", "no fit", "pushes out its name",
	} {
		if seen[what] == 0 {
			t.Errorf("no head is of: %s", what)
		}
	}
	for count := range 7 {
		if counts[count] == 0 {
			t.Errorf("no head has %d fields", count)
		}
	}
}

// All of HeadWrite, against what the document says of each field.
func TestHeadWrite(t *testing.T) {
	eachHead(func(table impl.Table, head []impl.Field) {
		fields, b := wantHeadWrite(table, head)
		mustWriteHead(t, table, head, fields, b)
	})
}

// Promise 33.
func TestHeadReadBack(t *testing.T) {
	eachHead(func(table impl.Table, head []impl.Field) {
		behind, b := impl.HeadWrite(table, head)
		mustReadHead(t, table, b, behind.Fields, head)
	})
}

// Promise 34: many heads, one behind the other, of tables of all sizes.
func TestHeadsInTurn(t *testing.T) {
	for most := 0; most <= 64; most++ {
		out, in := impl.Table{Max: most}, impl.Table{Max: most}
		for turn := range 4 {
			for _, head := range anyHeads(most + turn*29) {
				fields, want := wantHeadWrite(out, head)
				mustWriteHead(t, out, head, fields, want)
				mustReadHead(t, in, want, fields, head)
				out, _ = impl.HeadWrite(out, head)
				in, _, _ = impl.HeadRead(in, want)
			}
		}
	}
}

// Promise 34: each of two heads, by tables that have fields already.
func TestHeadTwo(t *testing.T) {
	for turn, table := range headTables() {
		one, two := anyHeads(turn), slices.Concat(ownHeads(table), anyHeads(turn+3))
		for at, second := range two {
			first := one[at%len(one)]
			then, b := impl.HeadWrite(table, first)
			last, c := impl.HeadWrite(then, second)
			mustReadHead(t, table, b, then.Fields, first)
			read, _, _ := impl.HeadRead(table, b)
			mustReadHead(t, read, c, last.Fields, second)
		}
	}
}

// Promise 35.
func TestHeadWriteParts(t *testing.T) {
	eachHead(func(table impl.Table, head []impl.Field) {
		behind, b := impl.HeadWrite(table, head)
		for cut := range len(head) + 1 {
			then, first := impl.HeadWrite(table, head[:cut])
			last, second := impl.HeadWrite(then, head[cut:])
			if first+second != b {
				t.Fatalf("HeadWrite(%v, %v) is %x, in two, at %d, %x and %x", table, head, b, cut, first, second)
			}
			mustBeTable(t, "the table behind two", last, behind.Fields, behind.Max)
		}
	})
}

// Promise 36.
func TestHeadWriteAgain(t *testing.T) {
	asked := 0
	eachHead(func(table impl.Table, head []impl.Field) {
		if slices.ContainsFunc(head, func(f impl.Field) bool { return f.Never }) || sizeOf(table.Fields)+sizeOf(head) > table.Max {
			return
		}
		asked++
		behind, _ := impl.HeadWrite(table, head)
		want := ""
		for _, f := range head {
			place, all := wantFind(behind, f)
			if !all {
				t.Fatalf("%v of %v is not in %v", f, head, behind)
			}
			want += string([]byte{byte(128 + place)})
		}
		mustWriteHead(t, behind, head, behind.Fields, want)
		mustReadHead(t, behind, want, behind.Fields, head)
	})
	if asked < 200 {
		t.Error(asked)
	}
}

// Promise 36: fields that just fit, and one byte more.
func TestHeadWriteAgainFull(t *testing.T) {
	for _, sizes := range [][]int{{36, 28}, {28, 36}, {32, 32}, {20, 20, 24}, {10, 10, 10, 10, 10, 14}, {5, 5, 5, 5, 8, 36}} {
		head := fieldRow(sizes, 1)
		back := slices.Clone(head)
		slices.Reverse(back)
		full, _ := impl.HeadWrite(impl.Table{Max: 64}, head)
		mustBeTable(t, "a full table", full, back, 64)
		again := ""
		for at := range head {
			again += string([]byte{byte(134 + len(head) - at)})
		}
		mustWriteHead(t, full, head, back, again)
		less := impl.Table{Max: 63}
		then, _ := impl.HeadWrite(less, head)
		mustBeTable(t, "one less", then, back[:len(back)-1], 63)
		if _, b := impl.HeadWrite(then, head); len(b) <= len(head) {
			t.Fatalf("%v fits in 63: %x", head, b)
		}
	}
}

// Promise 37.
func TestHeadNever(t *testing.T) {
	eachHead(func(table impl.Table, head []impl.Field) {
		secret := []impl.Field{}
		for _, f := range head {
			secret = append(secret, never(f))
		}
		behind, b := impl.HeadWrite(table, secret)
		mustBeTable(t, "the table behind what is never kept", behind, table.Fields, table.Max)
		mustReadHead(t, table, b, table.Fields, secret)
	})
}

// Promise 37: one that is found all the same, among the fixed ones and in the table, is written with its name, at the place of all of it.
func TestHeadNeverFound(t *testing.T) {
	table := impl.Table{Max: 64, Fields: []impl.Field{{Name: "e", Val: "t"}, {Name: "e"}, {Name: "kind", Val: "0"}}}
	for _, c := range []struct{ name, val, b string }{
		{":path", "", "\x11\x00"}, {":status", "0", "\x12\x010"}, {":status", "12", "\x13\x0212"}, {":status", "1", "\x12\x011"},
		{"kind", "text", "\x14\x83\x08\x34\x07"}, {"kind", "0", "\x19\x010"}, {"kind", "", "\x14\x00"}, {"size", "", "\x15\x00"},
		{"e", "t", "\x17\x01t"}, {"e", "", "\x18\x00"}, {"e", "a", "\x17\x01a"}, {"t", "e", "\x10\x01t\x01e"},
	} {
		head := []impl.Field{{Name: c.name, Val: c.val, Never: true}}
		mustWriteHead(t, table, head, table.Fields, c.b)
		mustReadHead(t, table, c.b, table.Fields, head)
	}
}

// Promise 37, and its edges: places in four bits, of which 15 and more need a second byte.
func TestHeadNeverPlaces(t *testing.T) {
	table := rowTable(12)
	for at, f := range table.Fields {
		want := string([]byte{byte(16 + 7 + at)}) + "\x00"
		if at >= 8 {
			want = string([]byte{31, byte(at - 8)}) + "\x00"
		}
		mustWriteHead(t, table, []impl.Field{never(f)}, table.Fields, want)
		mustReadHead(t, table, want, table.Fields, []impl.Field{never(f)})
		named := impl.Field{Name: f.Name, Val: "0", Never: true}
		mustWriteHead(t, table, []impl.Field{named}, table.Fields, want[:len(want)-1]+"\x010")
	}
	for count := 8; count <= 12; count++ {
		for place := 15; place <= 30; place++ {
			b := string([]byte{31, byte(place - 15), 0})
			if place > 6+count {
				mustReadNoHead(t, rowTable(count), b)
			} else {
				mustReadHeadAs(t, rowTable(count), b)
			}
		}
	}
	for _, b := range []string{"\x1f", "\x1f\x00", "\x1f\x80\x00\x00", "\x1f\x80\x00", "\x1f\xff\x7f\x00", "\x1f\x83\x00\x00", "\x1f\x80\x80\x00\x00"} {
		mustReadNoHead(t, table, b)
	}
}

// Places move behind an add; a field that pushes out the one whose name it has, and one that does not fit at all.
func TestHeadPlacesMove(t *testing.T) {
	a, b, c := impl.Field{Name: "a", Val: "1"}, impl.Field{Name: "b", Val: "2"}, impl.Field{Name: "c", Val: "3"}
	table := impl.Table{Max: 12, Fields: []impl.Field{a, b}}
	mustWriteHead(t, table, []impl.Field{b, a, b}, []impl.Field{a, b}, "\x88\x87\x88")
	mustWriteHead(t, table, []impl.Field{b, c, a, b}, []impl.Field{b, c}, "\x88\x40\x01c\x013\x88\x40\x01b\x012")
	mustReadHead(t, table, "\x88\x40\x01c\x013\x88\x40\x01b\x012", []impl.Field{b, c}, []impl.Field{b, c, a, b})
	// A field that was found is not added, and so may go by one behind it in the same head.
	then, _ := impl.HeadWrite(table, []impl.Field{b, c})
	mustBeTable(t, "the table behind both", then, []impl.Field{c, a}, 12)
	mustWriteHead(t, then, []impl.Field{b, c}, []impl.Field{b, c}, "\x40\x01b\x012\x88")
	out := impl.Field{Name: "b", Val: "1234567"}
	mustWriteHead(t, table, []impl.Field{out, a, b}, []impl.Field{b, a}, "\x48\x85\x5b\x1a\xe7\xc2\x3f\x40\x01a\x011\x40\x01b\x012")
	mustReadHead(t, table, "\x48\x85\x5b\x1a\xe7\xc2\x3f", []impl.Field{out}, []impl.Field{out})
	big := impl.Field{Name: "b", Val: "12345678"}
	mustWriteHead(t, table, []impl.Field{big, big, a}, []impl.Field{a}, "\x48\x85\x5b\x1a\xe7\xc2\x32\x40\x01b\x85\x5b\x1a\xe7\xc2\x32\x40\x01a\x011")
	mustReadHead(t, table, "\x48\x85\x5b\x1a\xe7\xc2\x32", nil, []impl.Field{big})
	mustReadNoHead(t, table, "\x48\x85\x5b\x1a\xe7\xc2\x32\x87")
	mustReadNoHead(t, table, "\x48\x85\x5b\x1a\xe7\xc2\x32\x48\x00")
	less := impl.Field{Name: "b"}
	mustWriteHead(t, table, []impl.Field{less, a, less}, []impl.Field{less, a}, "\x48\x00\x88\x87")
	mustReadHead(t, table, "\x48\x00\x88\x87", []impl.Field{less, a}, []impl.Field{less, a, less})
	mustReadNoHead(t, table, "\x48\x00\x89")
}

// headBytes is bytes that are heads by the table: as they are written, with words in both forms, and of fields that need not be added.
func headBytes(table impl.Table, turn int) []string {
	out := []string{"", "\x40\x01e\x00", "\x41\x00", "\x84\x44\x04text\x87", "\x10\x81\x07\x00\x40\x81\x07\x81\x07", "\x40\x04kind\x04text"}
	for at := range table.Fields {
		out = append(out, string([]byte{byte(71 + at), 1, '0', 135, byte(135 + at), 17, 0}))
	}
	for at, head := range slices.Concat(ownHeads(table), anyHeads(turn)) {
		if at%3 == turn%3 {
			_, b := wantHeadWrite(table, head)
			out = append(out, b)
		}
	}
	return out
}

// Promise 38: what is read of bytes, whatever they are, is ok, and what the document says.
func TestHeadReadAll(t *testing.T) {
	for turn, table := range []impl.Table{{}, rowTable(12), headTables()[150]} {
		read := 0
		for first := range 256 {
			for second := range 256 {
				for _, rest := range []string{"", "\x00", "\x010", "e\x00", "\x01e\x010\x84"} {
					if mustReadHeadAs(t, table, string([]byte{byte(first), byte(second)})+rest) {
						read++
					}
				}
			}
		}
		if read < 100 {
			t.Errorf("of table %d %d are read", turn, read)
		}
	}
}

// Promise 38: bytes near those of heads, with one bit another one, or one byte more, or less.
func TestHeadReadNear(t *testing.T) {
	for turn, table := range headTables() {
		if turn%4 != 0 {
			continue
		}
		for at, b := range headBytes(table, turn) {
			mustReadHeadAs(t, table, b)
			if at%4 != turn/4%4 {
				continue
			}
			for _, near := range flips(b) {
				mustReadHeadAs(t, table, near)
			}
			for i := range len(b) {
				mustReadHeadAs(t, table, b[:i]+b[i+1:])
				mustReadHeadAs(t, table, b[:i]+"\x00"+b[i:])
			}
		}
	}
	for seed := range 4000 {
		mustReadHeadAs(t, rowTable(seed%13), stirred(seed%40, uint32(seed)))
	}
}

// Promise 38: of bytes that are cut at a field it is a beginning; cut anywhere else they are no head.
func TestHeadReadCut(t *testing.T) {
	for turn, table := range headTables() {
		for _, b := range headBytes(table, turn) {
			_, head, ends, ok := wantHeadRead(table, b)
			if !ok {
				continue
			}
			for cut := range len(b) + 1 {
				at := slices.Index(append([]int{0}, ends...), cut)
				if at < 0 {
					mustReadNoHead(t, table, b[:cut])
					continue
				}
				behind, got, ok := impl.HeadRead(table, b[:cut])
				if !slices.Equal(got, head[:at]) || !ok || !impl.TableOk(behind) || !impl.HeadOk(got) {
					t.Fatalf("HeadRead(%v, %x), cut at %d, is %v, %v, not %v", table, b, cut, got, ok, head[:at])
				}
			}
		}
	}
}

// Promise 39.
func TestHeadReadBoth(t *testing.T) {
	both := 0
	for turn, table := range headTables() {
		first := headBytes(table, turn)
		for at, b := range first {
			then, one, ok := impl.HeadRead(table, b)
			if !ok || at%5 != turn%5 {
				continue
			}
			for _, c := range headBytes(then, turn+1) {
				last, two, ok := impl.HeadRead(then, c)
				if !ok {
					continue
				}
				if len(one)+len(two) > 6 {
					mustReadNoHead(t, table, b+c)
					continue
				}
				both++
				mustReadHead(t, table, b+c, last.Fields, slices.Concat(one, two))
			}
		}
	}
	if both < 2000 {
		t.Error(both)
	}
}

// Promise 40.
func TestHeadOk(t *testing.T) {
	bad := noFields()
	for turn := range 40 {
		for at, head := range anyHeads(turn) {
			for count := range len(head) + 1 {
				if !impl.HeadOk(head[:count]) {
					t.Fatalf("%v is not ok", head[:count])
				}
			}
			f := bad[(turn*23+at)%len(bad)]
			for _, other := range with(head, f) {
				if impl.HeadOk(other) {
					t.Fatalf("%v is ok", other)
				}
			}
			for place := range head {
				other := slices.Clone(head)
				other[place] = f
				if impl.HeadOk(other) {
					t.Fatalf("%v is ok", other)
				}
			}
		}
	}
	for _, f := range bad {
		if impl.HeadOk([]impl.Field{f}) {
			t.Fatalf("%v is ok", f)
		}
	}
	for count := range 40 {
		if got := impl.HeadOk(slices.Repeat(fixedFields[3:4], count)); got != (count <= 6) {
			t.Fatalf("a head of %d is %v", count, got)
		}
	}
	if !impl.HeadOk(nil) || impl.HeadOk(make([]impl.Field, 1)) || impl.HeadOk(slices.Repeat(fixedFields, 1000)) {
		t.Fatal("no field, nothing, or too many")
	}
}

// Promise 41.
func TestHeadGet(t *testing.T) {
	names := []string{"", "e", "kind", "kin", "kindx", ":path", ":status", "size", "te", "text", "E", "none-such", "\x00", strings.Repeat("e", 17)}
	for turn := range 60 {
		for _, head := range anyHeads(turn) {
			asked := slices.Clone(names)
			for _, f := range head {
				asked = append(asked, f.Name, f.Val, f.Name+"e")
			}
			for _, name := range asked {
				at := slices.IndexFunc(head, func(f impl.Field) bool { return f.Name == name })
				val, ok := impl.HeadGet(head, name)
				if ok != (at >= 0) || ok && val != head[at].Val || !ok && val != "" {
					t.Fatalf("HeadGet(%v, %q) is %q, %v", head, name, val, ok)
				}
			}
		}
	}
	head := []impl.Field{{Name: "e"}, {Name: "t", Val: "1", Never: true}, {Name: "e", Val: "2"}, {Name: "t", Val: "3"}}
	for _, c := range []struct {
		name, val string
		ok        bool
	}{{"e", "", true}, {"t", "1", true}, {"a", "", false}, {"", "", false}, {"1", "", false}} {
		if val, ok := impl.HeadGet(head, c.name); val != c.val || ok != c.ok {
			t.Errorf("HeadGet of %q is %q, %v", c.name, val, ok)
		}
	}
}

// Wrong inputs: of what is no head there is no value.
func TestHeadGetNone(t *testing.T) {
	heads := [][]impl.Field{slices.Repeat(fixedFields[3:4], 7), slices.Concat(fixedFields, fixedFields)}
	for _, f := range noFields() {
		heads = append(heads, with(fixedFields[2:5], f)...)
		heads = append(heads, []impl.Field{f})
	}
	for _, head := range heads {
		for _, name := range []string{"kind", "size", ":status", head[0].Name, head[len(head)-1].Name, ""} {
			if val, ok := impl.HeadGet(head, name); val != "" || ok {
				t.Fatalf("HeadGet(%v, %q) is %q, %v", head, name, val, ok)
			}
		}
	}
}

// Promise 42.
func TestHeadOfNothing(t *testing.T) {
	for _, table := range okTables() {
		mustWriteHead(t, table, nil, table.Fields, "")
		mustReadHead(t, table, "", table.Fields, nil)
	}
	mustWriteHead(t, rowTable(3), []impl.Field{}, rowTable(3).Fields, "")
}

// Promise 43.
func TestHeadOfFixed(t *testing.T) {
	for _, table := range okTables() {
		for at, f := range impl.TableFixed() {
			b := string([]byte{byte(129 + at)})
			mustWriteHead(t, table, []impl.Field{f}, table.Fields, b)
			mustReadHead(t, table, b, table.Fields, []impl.Field{f})
		}
	}
	mustWriteHead(t, impl.Table{}, impl.TableFixed(), nil, "\x81\x82\x83\x84\x85\x86")
}

// Promise 44.
func TestHeadNoTable(t *testing.T) {
	none := impl.Table{}
	for turn := range 120 {
		for _, head := range anyHeads(turn) {
			behind, b := impl.HeadWrite(none, head)
			mustBeTable(t, "a table that may have nothing", behind, nil, 0)
			mustReadHead(t, none, b, nil, head)
			again, c := impl.HeadWrite(behind, head)
			if c != b || len(again.Fields) != 0 {
				t.Fatalf("HeadWrite(%v) is %x, and then %x", head, b, c)
			}
		}
	}
	for most := range 5 {
		mustReadHead(t, impl.Table{Max: most}, "\x40\x01e\x00\x41\x00", nil, []impl.Field{{Name: "e"}, {Name: ":path"}})
		mustReadNoHead(t, impl.Table{Max: most}, "\x40\x01e\x00\x87")
	}
}

// Promise 45: what each byte begins, with all kinds of bytes behind.
func TestHeadReadFirst(t *testing.T) {
	behind := []string{"", "\x00", "\x00\x00", "\x01e", "\x01e\x00", "\x01e\x01e", "\x010", "\x83\x08\x34\x07", "\x84", "\x10\x01e\x00", strings.Repeat("\x00", 34)}
	for count := range 13 {
		table := rowTable(count)
		for first := range 256 {
			for _, rest := range behind {
				for _, lead := range []string{"", "\x84", "\x11\x00"} {
					b := lead + string([]byte{byte(first)}) + rest
					if first < 16 || first >= 32 && first < 64 {
						mustReadNoHead(t, table, b)
					} else {
						mustReadHeadAs(t, table, b)
					}
				}
			}
		}
	}
}

// Promise 45: places that are just there, and the first beyond, in each form; and a place of 0.
func TestHeadReadPlaces(t *testing.T) {
	for count := range 13 {
		table := rowTable(count)
		places := slices.Concat(fixedFields, table.Fields)
		for place := 1; place <= 62; place++ {
			all, named := string([]byte{byte(128 + place)}), string([]byte{byte(64 + place)})+"\x010"
			secret := wantNamed(place, 16, 15, impl.Field{Val: "0"})
			if place > 6+count {
				mustReadNoHead(t, table, all)
				mustReadNoHead(t, table, named)
				mustReadNoHead(t, table, secret)
				continue
			}
			f := impl.Field{Name: places[place-1].Name, Val: "0"}
			mustReadHead(t, table, all, table.Fields, places[place-1:place])
			mustReadHead(t, table, named, wantFit(ahead(f, table.Fields), 64), []impl.Field{f})
			mustReadHead(t, table, secret, table.Fields, []impl.Field{never(f)})
		}
		for _, b := range []string{"\x80", "\x80\x01e\x00", "\x40", "\x10", "\x40\x00", "\x40\x00\x00", "\x40\x00\x010", "\x10\x00\x00", "\x10\x00\x010", "\x40\x80\x00", "\x10\x80\x00", "\x40\x80\x010", "\x40\x01e", "\x10\x01e", "\x41", "\x11"} {
			mustReadNoHead(t, table, b)
		}
		for _, b := range []string{"\xff", "\xff\x00", "\xff\x01", "\xff\x80\x01", "\x7f", "\x7f\x00", "\x7f\x00\x00", "\x7f\x01\x010", "\x7f\x80\x00\x00", "\x7f\x80\x01\x00", "\xff\xff\xff\x7f", "\xff\x88\x4e", "\xff\x89\x4e"} {
			mustReadNoHead(t, table, b)
		}
	}
}

// Words may be packed or not, names of their own and values.
func TestHeadReadWords(t *testing.T) {
	table := impl.Table{Max: 64}
	for _, name := range someWords() {
		for _, val := range []string{"", name, "text", strings.Repeat("-", 16)} {
			forms := func(w string) []string {
				packed := wantPack(w)
				return []string{string([]byte{byte(len(w))}) + w, string([]byte{byte(128 + len(packed))}) + packed}
			}
			for _, b := range forms(name) {
				for _, c := range forms(val) {
					f := impl.Field{Name: name, Val: val}
					if name == "" {
						mustReadNoHead(t, table, "\x40"+b+c)
						mustReadNoHead(t, table, "\x10"+b+c)
						continue
					}
					mustReadHead(t, table, "\x40"+b+c, []impl.Field{f}, []impl.Field{f})
					mustReadHead(t, table, "\x10"+b+c, nil, []impl.Field{never(f)})
				}
			}
		}
	}
	for _, bad := range badWords() {
		size := string([]byte{byte(len(bad) % 128)})
		for _, b := range []string{"\x40\x01e" + size + bad, "\x40" + size + bad + "\x00", "\x41" + size + bad, "\x10\x01e" + size + bad, "\x10" + size + bad + "\x00", "\x11" + size + bad} {
			mustReadNoHead(t, table, b)
		}
	}
}

// A field that is found may be added all the same, and a name that is found may be told as one of its own.
func TestHeadReadOtherWays(t *testing.T) {
	table := impl.Table{Max: 64, Fields: []impl.Field{{Name: "e", Val: "t"}}}
	f := impl.Field{Name: "kind", Val: "text"}
	for _, b := range []string{"\x44\x04text", "\x44\x83\x08\x34\x07", "\x40\x04kind\x04text"} {
		mustReadHead(t, table, b, ahead(f, table.Fields), []impl.Field{f})
	}
	mustReadHead(t, table, "\x47\x01t\x88\x87", slices.Repeat(table.Fields, 2), slices.Repeat(table.Fields, 3))
	mustReadHead(t, table, "\x43\x010", ahead(fixedFields[1], table.Fields), fixedFields[1:2])
	mustReadHead(t, table, "\x10\x04kind\x04text", table.Fields, []impl.Field{never(f)})
}

// HeadMax fields are read and written, one more is refused.
func TestHeadTooMany(t *testing.T) {
	table := rowTable(12)
	for _, b := range []string{"\x84", "\x92", "\x11\x00", "\x1f\x03\x00", "\x10\x01e\x00", "\x41\x00", "\x40\x01e\x00", "\x40\x10" + strings.Repeat("e", 16) + "\x10" + strings.Repeat("-", 16)} {
		for _, by := range []impl.Table{{}, {Max: 64}, table} {
			for count := range 12 {
				read := mustReadHeadAs(t, by, strings.Repeat(b, count))
				if count > 6 && read {
					t.Fatalf("%d times %x is a head", count, b)
				}
			}
		}
	}
	mustReadHead(t, table, "\x92\x92\x92\x92\x92\x92", table.Fields, slices.Repeat(table.Fields[11:], 6))
	mustReadNoHead(t, table, "\x92\x92\x92\x92\x92\x92\x92")
	for count := 7; count <= 12; count++ {
		mustWriteNoHead(t, table, table.Fields[:count])
		mustWriteNoHead(t, table, slices.Repeat(fixedFields[:1], count))
		mustWriteNoHead(t, impl.Table{}, slices.Repeat([]impl.Field{never(fixedFields[0])}, count))
	}
}

// The greatest head there is has 210 bytes, so that more bytes, 250 and 251 among them, are none; so are as many of anything else.
func TestHeadReadLong(t *testing.T) {
	table := impl.Table{Max: 64}
	long := "\x40\x10" + strings.Repeat("-", 16) + "\x10" + strings.Repeat("z", 16)
	fields := slices.Repeat([]impl.Field{{Name: strings.Repeat("-", 16), Val: strings.Repeat("z", 16)}}, 6)
	mustReadHead(t, table, strings.Repeat(long, 6), fields[:1], fields)
	for size := 211; size <= 300; size++ {
		for _, b := range []string{strings.Repeat(long, 10)[:size], strings.Repeat("\x84", size), strings.Repeat("\x11\x00", size)[:size], strings.Repeat("\x00", size), strings.Repeat("\xff", size), stirred(size, uint32(size))} {
			mustReadNoHead(t, table, b)
		}
	}
	mustReadNoHead(t, table, strings.Repeat(long, 1000))
	mustReadNoHead(t, table, strings.Repeat("\x84", 100000))
}

// Wrong inputs: by what is no table nothing is written or read, not even of nothing, nor of what needs no table.
func TestHeadByNoTable(t *testing.T) {
	for _, table := range noTables() {
		for _, head := range [][]impl.Field{nil, fixedFields[:1], {{Name: "e"}}, {{Name: "e", Never: true}}, fixedFields, {{}}} {
			mustWriteNoHead(t, table, head)
		}
		for _, b := range []string{"", "\x81", "\x40\x01e\x00", "\x10\x01e\x00", "\x41\x00", "\x87", "\x00", "\xff"} {
			mustReadNoHead(t, table, b)
		}
	}
	for _, most := range []int{-1, 65, math.MinInt, math.MaxInt} {
		mustWriteNoHead(t, impl.Table{Max: most}, nil)
		mustReadNoHead(t, impl.Table{Max: most}, "")
	}
}

// Wrong inputs: of a head with a field that is not ok, wherever it stands, nothing is written.
func TestHeadWriteNone(t *testing.T) {
	for turn, table := range headTables() {
		bad := noFields()
		for at := turn % 5; at < len(bad); at += 5 {
			mustWriteNoHead(t, table, bad[at:at+1])
			for _, head := range with(fixedFields[:3], bad[at]) {
				mustWriteNoHead(t, table, head)
			}
		}
	}
}

// mustLeave fails unless the lists are as they were, with what is behind their ends.
func mustLeave(t *testing.T, what string, lists, before [][]impl.Field) {
	t.Helper()
	for at := range lists {
		if !slices.Equal(lists[at], before[at]) {
			t.Fatalf("%s: %v became %v", what, before[at], lists[at])
		}
	}
}

// What HeadWrite answers shares no memory with the arguments, nothing is written there or behind their ends, and two answers share none.
func TestHeadWriteMemory(t *testing.T) {
	eachHead(func(table impl.Table, head []impl.Field) {
		given, all := roomy(table)
		asked, row := roomy(impl.Table{Fields: head})
		lists := [][]impl.Field{all, row}
		before := [][]impl.Field{slices.Clone(all), slices.Clone(row)}
		one, _ := impl.HeadWrite(given, asked.Fields)
		two, b := impl.HeadWrite(given, asked.Fields)
		impl.HeadOk(asked.Fields)
		impl.HeadGet(asked.Fields, "kind")
		mustLeave(t, "HeadWrite", lists, before)
		want := slices.Clone(two.Fields)
		scribble(one.Fields)
		mustLeave(t, "the answer of HeadWrite", lists, before)
		scribble(given.Fields)
		scribble(asked.Fields)
		mustBeTable(t, "HeadWrite, twice", two, want, table.Max)
		clipped := impl.Table{Fields: slices.Clip(slices.Clone(table.Fields)), Max: table.Max}
		mustWriteHead(t, clipped, slices.Clip(slices.Clone(head)), want, b)
	})
}

// What HeadRead answers shares no memory with the table, nothing is written there or behind its end, and neither two answers nor the two lists of one share any.
func TestHeadReadMemory(t *testing.T) {
	for turn, table := range headTables() {
		for _, b := range append(headBytes(table, turn), "\x41", "\x40\x01e\x00\x00") {
			given, all := roomy(table)
			before := slices.Clone(all)
			one, first, _ := impl.HeadRead(given, b)
			two, second, _ := impl.HeadRead(given, b)
			mustLeave(t, "HeadRead", [][]impl.Field{all}, [][]impl.Field{before})
			fields, head := slices.Clone(two.Fields), slices.Clone(second)
			scribble(first)
			mustLeave(t, "the head of HeadRead", [][]impl.Field{all, one.Fields, second}, [][]impl.Field{before, fields, head})
			scribble(one.Fields)
			mustLeave(t, "the table of HeadRead", [][]impl.Field{all, two.Fields, second}, [][]impl.Field{before, fields, head})
			scribble(given.Fields)
			scribble(two.Fields)
			mustLeave(t, "the table of HeadRead", [][]impl.Field{second}, [][]impl.Field{head})
		}
	}
}

// The words of an answer are no pieces of a text that was given, nor do two lists of one answer share any but those of fixed fields.
func TestHeadWordMemory(t *testing.T) {
	text := strings.Repeat("abcdefgh", 500)
	table := impl.Table{Fields: []impl.Field{{Name: text[:3], Val: text[8:12]}, {Name: text[100:101]}}, Max: 64}
	head := []impl.Field{{Name: text[50:60], Val: text[7:9]}, {Name: text[:3], Val: text[8:12]}, {Name: text[1:3], Never: true}}
	b := "\x40\x03aba\x04dcba\x87\x88\x49\x02bb\x10\x01e\x01f"
	written, out := impl.HeadWrite(table, head)
	read, got, ok := impl.HeadRead(table, b)
	if !ok || len(got) != 5 || len(written.Fields) != 3 || len(read.Fields) != 4 {
		t.Fatal(written, out, read, got, ok)
	}
	for _, f := range slices.Concat(written.Fields, read.Fields, got) {
		for _, w := range []string{f.Name, f.Val} {
			if liesIn(w, text) || liesIn(w, b) {
				t.Errorf("%v shares memory with what was given", f)
			}
		}
	}
	for _, f := range got {
		for _, g := range read.Fields {
			if liesIn(f.Name, g.Name) || liesIn(f.Val, g.Val) {
				t.Errorf("the head and the table share %v", f)
			}
		}
	}
	if val, ok := impl.HeadGet(head, "abc"); val != "abcd" || !ok || liesIn(val, text) {
		t.Errorf("HeadGet is %q, %v", val, ok)
	}
}
