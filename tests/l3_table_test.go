package tests

import (
	"math"
	"slices"
	"strings"
	"testing"
	"unsafe"

	"loop.example/lamson/impl"
)

// fixedFields is the fixed fields, written out apart from the program.
var fixedFields = []impl.Field{
	{Name: ":path", Val: ""},
	{Name: ":status", Val: "0"},
	{Name: ":status", Val: "12"},
	{Name: "kind", Val: "text"},
	{Name: "size", Val: ""},
	{Name: "te", Val: "trailers"},
}

const (
	fieldLeast = 5
	fieldMost  = 36
)

// sizeOf is what the document says fields count for together.
func sizeOf(fields []impl.Field) int {
	size := 0
	for _, f := range fields {
		size += len(f.Name) + len(f.Val) + 4
	}
	return size
}

// wantFit is the first ones of the fields, as many as fit.
func wantFit(fields []impl.Field, most int) []impl.Field {
	count := 0
	for count < len(fields) && sizeOf(fields[:count+1]) <= most {
		count++
	}
	return fields[:count]
}

// kept is the field as a table keeps it.
func kept(f impl.Field) impl.Field {
	return impl.Field{Name: f.Name, Val: f.Val}
}

// ahead is the field, as a table keeps it, and then the others.
func ahead(f impl.Field, fields []impl.Field) []impl.Field {
	return append([]impl.Field{kept(f)}, fields...)
}

// wantFind is what the document says of the place of an ok field in an ok table.
func wantFind(table impl.Table, f impl.Field) (int, bool) {
	all := slices.Concat(fixedFields, table.Fields)
	if at := slices.Index(all, kept(f)); at >= 0 {
		return at + 1, true
	}
	return 1 + slices.IndexFunc(all, func(g impl.Field) bool { return g.Name == f.Name }), false
}

// sizedField is an ok field that counts for so much, its name being of any length that leaves that; turn says which, and of which signs it is.
func sizedField(size, turn int) impl.Field {
	words := size - 4
	least, most := max(1, words-16), min(16, words)
	name := least + turn%(most-least+1)
	return impl.Field{Name: mixedWord(name, min(1, name/2), turn), Val: mixedWord(words-name, min(2, words-name), turn+1)}
}

// sizeRows is all rows of such sizes that are together no more than what is left.
func sizeRows(sizes []int, left int) [][]int {
	rows := [][]int{nil}
	for _, size := range sizes {
		if size > left {
			continue
		}
		for _, row := range sizeRows(sizes, left-size) {
			rows = append(rows, append([]int{size}, row...))
		}
	}
	return rows
}

// fieldRow is a field of each of the sizes; turn says which.
func fieldRow(sizes []int, turn int) []impl.Field {
	fields := []impl.Field{}
	for at, size := range sizes {
		fields = append(fields, sizedField(size, at+turn))
	}
	return fields
}

// okFields is ok fields of each size, the fixed ones, some near these, and those that no table may keep.
func okFields() []impl.Field {
	fields := []impl.Field{
		{Name: "e"}, {Name: "-"}, {Name: "kind"}, {Name: "kind", Val: "tex"}, {Name: "kin", Val: "dtext"},
		{Name: ":path", Val: "/echo"}, {Name: ":path", Val: "0"}, {Name: ":status"}, {Name: ":status", Val: "1"}, {Name: ":status", Val: "120"},
		{Name: "size", Val: "16"}, {Name: "te"}, {Name: "text", Val: "kind"}, {Name: "trailers", Val: "te"},
		{Name: strings.Repeat("z", 16)}, {Name: "z", Val: strings.Repeat("e", 16)},
		{Name: strings.Repeat("m", 16), Val: strings.Repeat("-", 16)},
	}
	for size := fieldLeast; size <= fieldMost; size++ {
		for turn := range 2 {
			fields = append(fields, sizedField(size, turn*5))
		}
	}
	fields = append(fields, fixedFields...)
	for _, f := range fields[:24] {
		fields = append(fields, impl.Field{Name: f.Name, Val: f.Val, Never: true})
	}
	return append(fields, impl.Field{Name: ":path", Never: true}, impl.Field{Name: "kind", Val: "text", Never: true})
}

// noFields is fields that are not ok: without a name, and with words that are none, as name, as value and as both.
func noFields() []impl.Field {
	fields := []impl.Field{{}, {Val: "text"}, {Never: true}, {Val: "0", Never: true}, {Val: strings.Repeat("e", 16)}}
	for _, bad := range []string{strings.Repeat("e", 17), strings.Repeat("-", 40), "E", "kind ", " kind", "ki nd", "k\x00", "\xff", "ä", "te\n", "_"} {
		fields = append(fields,
			impl.Field{Name: bad}, impl.Field{Name: bad, Val: "text"}, impl.Field{Name: bad, Val: bad}, impl.Field{Name: bad, Never: true},
			impl.Field{Name: "kind", Val: bad}, impl.Field{Name: "e", Val: bad}, impl.Field{Name: ":path", Val: bad}, impl.Field{Name: "e", Val: bad, Never: true},
			impl.Field{Val: bad})
	}
	return fields
}

// okTables is ok tables: of all rows of some sizes, as large as they are, one larger, and as large as any; without fields; with fields that stand twice, and with fixed ones.
func okTables() []impl.Table {
	tables := []impl.Table{}
	for _, most := range []int{0, 1, 4, 5, 6, 35, 36, 37, 63, 64} {
		tables = append(tables, impl.Table{Max: most}, impl.Table{Fields: []impl.Field{}, Max: most})
	}
	for turn, row := range sizeRows([]int{5, 11, 23, 27, 36}, impl.TableMax) {
		fields := fieldRow(row, turn)
		size := sizeOf(fields)
		for _, most := range []int{size, min(size+1, 64), max(size, 63), 64} {
			tables = append(tables, impl.Table{Fields: fields, Max: most})
		}
	}
	one, two := impl.Field{Name: "kind", Val: "0"}, impl.Field{Name: "te", Val: "12"}
	for _, fields := range [][]impl.Field{
		{one}, {one, one}, {one, two, one}, {two, one, one, two},
		{fixedFields[0]}, {fixedFields[3], fixedFields[3]}, {one, fixedFields[3]}, {fixedFields[5], fixedFields[4]},
		{{Name: ":status", Val: "5"}, {Name: ":status", Val: "0"}, {Name: ":status", Val: "5"}},
		{{Name: "e", Val: "t"}, {Name: "e"}, {Name: "e", Val: "t"}, {Name: "t", Val: "e"}, {Name: "e", Val: "a"}},
	} {
		tables = append(tables, impl.Table{Fields: fields, Max: sizeOf(fields)}, impl.Table{Fields: fields, Max: 64})
	}
	return tables
}

// fewTables is some of these, for what is asked of each many times.
func fewTables() []impl.Table {
	few := []impl.Table{}
	for at, table := range okTables() {
		if at < 20 || at%29 == 0 {
			few = append(few, table)
		}
	}
	all := okTables()
	return append(few, all[len(all)-20:]...)
}

// with is the fields, with one more at each place, one after the other.
func with(fields []impl.Field, f impl.Field) [][]impl.Field {
	rows := [][]impl.Field{}
	for at := range len(fields) + 1 {
		rows = append(rows, slices.Insert(slices.Clone(fields), at, f))
	}
	return rows
}

// noTables is tables that are not ok: of a greatest size that is none, larger than that, with a field that is not ok, and with one that none may keep.
func noTables() []impl.Table {
	tables := []impl.Table{}
	for _, most := range []int{-1, -2, -64, 65, 66, 128, 256, 320, math.MinInt, math.MaxInt, math.MinInt32, math.MaxInt32} {
		tables = append(tables, impl.Table{Max: most}, impl.Table{Fields: []impl.Field{{Name: "e"}}, Max: most})
	}
	for turn, row := range sizeRows([]int{5, 17, 36}, impl.TableMax) {
		if fields := fieldRow(row, turn); len(fields) > 0 {
			tables = append(tables, impl.Table{Fields: fields, Max: sizeOf(fields) - 1}, impl.Table{Fields: fields, Max: 0}, impl.Table{Fields: fields, Max: 4})
			tables = append(tables, impl.Table{Fields: ahead(sizedField(36, turn), append(fieldRow([]int{29}, turn), fields...)), Max: 64})
		}
	}
	few := fieldRow([]int{5, 8, 11}, 0)
	for _, f := range noFields() {
		for _, fields := range with(few, f) {
			tables = append(tables, impl.Table{Fields: fields, Max: 64})
		}
		tables = append(tables, impl.Table{Fields: []impl.Field{f}, Max: 64})
	}
	for _, never := range []impl.Field{{Name: "e", Never: true}, {Name: "kind", Val: "text", Never: true}} {
		for _, fields := range with(few, never) {
			tables = append(tables, impl.Table{Fields: fields, Max: 64})
		}
		tables = append(tables, impl.Table{Fields: []impl.Field{never}, Max: 64})
	}
	return append(tables, impl.Table{Fields: make([]impl.Field, 1000), Max: 64}, impl.Table{Fields: slices.Repeat(few, 1000), Max: 64})
}

// mustBeTable fails unless the table has just such fields, and is ok.
func mustBeTable(t *testing.T, what string, got impl.Table, fields []impl.Field, most int) {
	t.Helper()
	if !slices.Equal(got.Fields, fields) || got.Max != most {
		t.Fatalf("%s is %v, not %v, %d", what, got, fields, most)
	}
	if !impl.TableOk(got) {
		t.Fatalf("%s is %v, which is not ok", what, got)
	}
}

// mustBeNoTable fails unless the table is nothing.
func mustBeNoTable(t *testing.T, what string, got impl.Table) {
	t.Helper()
	if len(got.Fields) != 0 || got.Max != 0 {
		t.Fatalf("%s is %v, not nothing", what, got)
	}
}

// mustBeNowhere fails unless there is no field at the place, and nothing is told beside that.
func mustBeNowhere(t *testing.T, table impl.Table, at int) {
	t.Helper()
	if f, ok := impl.TableAt(table, at); f != (impl.Field{}) || ok {
		t.Fatalf("TableAt(%v, %d) is %v, %v, not nothing and false", table, at, f, ok)
	}
}

// mustBeAt fails unless the field is at the place.
func mustBeAt(t *testing.T, table impl.Table, at int, want impl.Field) {
	t.Helper()
	if f, ok := impl.TableAt(table, at); f != want || !ok {
		t.Fatalf("TableAt(%v, %d) is %v, %v, not %v, true", table, at, f, ok, want)
	}
}

// mustFind fails unless the field is found as is said.
func mustFind(t *testing.T, table impl.Table, f impl.Field, at int, all bool) {
	t.Helper()
	if gotAt, gotAll := impl.TableFind(table, f); gotAt != at || gotAll != all {
		t.Fatalf("TableFind(%v, %v) is %d, %v, not %d, %v", table, f, gotAt, gotAll, at, all)
	}
}

func TestTableKnown(t *testing.T) {
	table := impl.Table{Max: 20}
	table = impl.TableAdd(table, impl.Field{Name: "ab", Val: "cde"})
	mustBeTable(t, "one", table, []impl.Field{{Name: "ab", Val: "cde"}}, 20)
	table = impl.TableAdd(table, impl.Field{Name: "x", Never: true})
	mustBeTable(t, "two", table, []impl.Field{{Name: "x"}, {Name: "ab", Val: "cde"}}, 20)
	if size := impl.TableSize(table); size != 14 {
		t.Errorf("TableSize is %d", size)
	}
	mustFind(t, table, impl.Field{Name: "ab", Val: "no"}, 8, false)
	mustFind(t, table, impl.Field{Name: "ab", Val: "cde"}, 8, true)
	mustFind(t, table, impl.Field{Name: "x"}, 7, true)
	mustFind(t, table, impl.Field{Name: "te"}, 6, false)
	mustFind(t, table, impl.Field{Name: ":status", Val: "7"}, 2, false)
	mustFind(t, table, impl.Field{Name: "y"}, 0, false)
	mustBeAt(t, table, 8, impl.Field{Name: "ab", Val: "cde"})
	mustBeNowhere(t, table, 9)
	mustBeTable(t, "three", impl.TableAdd(table, impl.Field{Name: "yy", Val: "zz"}), []impl.Field{{Name: "yy", Val: "zz"}, {Name: "x"}}, 20)
	mustBeTable(t, "less", impl.TableLimit(table, 6), []impl.Field{{Name: "x"}}, 6)
	mustBeTable(t, "more", impl.TableLimit(table, 64), table.Fields, 64)
}

// The fields and tables of the tests have what the edges ask for.
func TestTableEdgesAreThere(t *testing.T) {
	sizes, maxes, counts, full := map[int]int{}, map[int]int{}, map[int]int{}, 0
	for _, f := range okFields() {
		sizes[sizeOf([]impl.Field{f})]++
	}
	for _, table := range okTables() {
		maxes[table.Max]++
		counts[len(table.Fields)]++
		if sizeOf(table.Fields) == 64 {
			full++
		}
	}
	for size := fieldLeast; size <= fieldMost; size++ {
		if sizes[size] == 0 {
			t.Errorf("no field is of %d", size)
		}
	}
	if maxes[0] == 0 || maxes[63] == 0 || maxes[64] == 0 || full == 0 {
		t.Error(maxes[0], maxes[63], maxes[64], full)
	}
	for count := range 13 {
		if counts[count] == 0 {
			t.Errorf("no table has %d fields", count)
		}
	}
	if impl.TableMax != 64 {
		t.Error(impl.TableMax)
	}
}

// Promise 21.
func TestFieldOk(t *testing.T) {
	words := []string{"", "e", "0", "/echo", "text", mixedWord(15, 4, 0), mixedWord(16, 5, 1), strings.Repeat("-", 16)}
	for _, f := range okFields() {
		if !impl.FieldOk(f) || f.Name == "" || !impl.WordOk(f.Name) || !impl.WordOk(f.Val) {
			t.Fatalf("FieldOk(%v) is %v", f, impl.FieldOk(f))
		}
		for _, val := range words {
			for _, never := range []bool{false, true} {
				if other := (impl.Field{Name: f.Name, Val: val, Never: never}); !impl.FieldOk(other) {
					t.Fatalf("%v is not ok", other)
				}
			}
		}
	}
	for _, f := range noFields() {
		if impl.FieldOk(f) {
			t.Fatalf("%v is ok", f)
		}
	}
}

// Promise 21: all bytes, and all lengths around the greatest, as name and as value.
func TestFieldOkWords(t *testing.T) {
	texts := badWords()
	for c := range 256 {
		texts = append(texts, string([]byte{byte(c)}))
	}
	for size := range 40 {
		texts = append(texts, strings.Repeat("e", size))
	}
	for _, text := range texts {
		if got := impl.FieldOk(impl.Field{Name: text, Val: "e"}); got != (wantOk(text) && text != "") {
			t.Fatalf("FieldOk of the name %q is %v", text, got)
		}
		if got := impl.FieldOk(impl.Field{Name: "e", Val: text}); got != wantOk(text) {
			t.Fatalf("FieldOk of the value %q is %v", text, got)
		}
	}
}

// Promise 22.
func TestTableSize(t *testing.T) {
	for _, table := range okTables() {
		size := impl.TableSize(table)
		if size != sizeOf(table.Fields) || size > table.Max {
			t.Fatalf("TableSize(%v) is %d, not %d", table, size, sizeOf(table.Fields))
		}
		for at, f := range table.Fields {
			less := impl.Table{Fields: slices.Delete(slices.Clone(table.Fields), at, at+1), Max: table.Max}
			if got := impl.TableSize(less); got != size-len(f.Name)-len(f.Val)-4 {
				t.Fatalf("TableSize(%v) is %d, of %v %d", less, got, table, size)
			}
		}
	}
	for _, f := range okFields() {
		if got := impl.TableSize(impl.Table{Fields: []impl.Field{kept(f)}, Max: 64}); got != 4+len(f.Name)+len(f.Val) {
			t.Fatalf("TableSize of %v is %d", f, got)
		}
	}
	for _, table := range noTables() {
		if got := impl.TableSize(table); got != -1 {
			t.Fatalf("TableSize(%v) is %d, not -1", table, got)
		}
	}
}

// Promise 23.
func TestTableOk(t *testing.T) {
	for _, table := range okTables() {
		if !impl.TableOk(table) {
			t.Fatalf("%v is not ok", table)
		}
		size := sizeOf(table.Fields)
		for most := -2; most <= 67; most++ {
			got := impl.TableOk(impl.Table{Fields: table.Fields, Max: most})
			if got != (most >= size && most <= 64) {
				t.Fatalf("%v, of at most %d, is %v", table.Fields, most, got)
			}
		}
	}
	for _, table := range noTables() {
		if impl.TableOk(table) {
			t.Fatalf("%v is ok", table)
		}
	}
}

// Promise 24.
func TestTableAdd(t *testing.T) {
	fields := okFields()
	for turn, table := range okTables() {
		for at := turn % 7; at < len(fields); at += 7 {
			f := fields[at]
			got := impl.TableAdd(table, f)
			mustBeTable(t, "TableAdd", got, wantFit(ahead(f, table.Fields), table.Max), table.Max)
			if fits := sizeOf([]impl.Field{f}) <= table.Max; fits != (len(got.Fields) > 0) {
				t.Fatalf("TableAdd(%v, %v) is %v", table, f, got)
			}
		}
	}
}

// Promise 24: a field that is as large as it may be, one larger, and one less, and then one that fits again.
func TestTableAddNoFit(t *testing.T) {
	for most := 0; most <= 64; most++ {
		table := impl.Table{Fields: wantFit(fieldRow([]int{5, 6, 7, 8, 9, 10, 11}, most), most), Max: most}
		for size := fieldLeast; size <= fieldMost; size++ {
			f := sizedField(size, most)
			got := impl.TableAdd(table, f)
			if size > most {
				mustBeTable(t, "TableAdd of too much", got, nil, most)
			} else if size == most {
				mustBeTable(t, "TableAdd of as much", got, []impl.Field{f}, most)
			} else {
				mustBeTable(t, "TableAdd of less", got, wantFit(ahead(f, table.Fields), most), most)
			}
			again := impl.TableAdd(got, impl.Field{Name: "e"})
			mustBeTable(t, "TableAdd behind it", again, wantFit(ahead(impl.Field{Name: "e"}, got.Fields), most), most)
		}
	}
	full := impl.Table{Fields: []impl.Field{{Name: "e", Val: "t"}, {Name: "t"}}, Max: 11}
	mustBeTable(t, "TableAdd of 12", impl.TableAdd(full, impl.Field{Name: "kind", Val: "text"}), nil, 11)
	mustBeTable(t, "TableAdd of 11", impl.TableAdd(full, impl.Field{Name: "kind", Val: "tex"}), []impl.Field{{Name: "kind", Val: "tex"}}, 11)
	mustBeTable(t, "TableAdd of 6", impl.TableAdd(full, impl.Field{Name: "ab"}), []impl.Field{{Name: "ab"}}, 11)
	mustBeTable(t, "TableAdd of 5", impl.TableAdd(full, impl.Field{Name: "a"}), []impl.Field{{Name: "a"}, {Name: "e", Val: "t"}}, 11)
}

// Promise 24: many fields, one behind the other; the last ones that were added are there, the newest first.
func TestTableAddMany(t *testing.T) {
	fields := okFields()
	for most := 0; most <= 64; most++ {
		table := impl.Table{Max: most}
		want := []impl.Field{}
		for turn := range 60 {
			f := fields[(turn*17+most)%len(fields)]
			table = impl.TableAdd(table, f)
			want = wantFit(ahead(f, want), most)
			mustBeTable(t, "TableAdd of many", table, want, most)
		}
	}
}

// Wrong inputs: nothing is added to what is no table, nor of what is no field.
func TestTableAddNone(t *testing.T) {
	for _, table := range noTables() {
		for _, f := range []impl.Field{{Name: "e"}, {Name: "kind", Val: "text"}, {Name: "e", Never: true}, sizedField(36, 0)} {
			mustBeNoTable(t, "TableAdd to none", impl.TableAdd(table, f))
		}
	}
	for _, table := range fewTables() {
		for _, f := range noFields() {
			mustBeNoTable(t, "TableAdd of none", impl.TableAdd(table, f))
		}
	}
	mustBeNoTable(t, "TableAdd of none to none", impl.TableAdd(impl.Table{Max: 65}, impl.Field{}))
}

// Promise 25.
func TestTableLimit(t *testing.T) {
	for turn, table := range okTables() {
		for most := turn % 5; most <= 64; most += 5 {
			once := impl.TableLimit(table, most)
			mustBeTable(t, "TableLimit", once, wantFit(table.Fields, most), most)
			mustBeTable(t, "TableLimit twice", impl.TableLimit(once, most), once.Fields, most)
		}
		size := sizeOf(table.Fields)
		for most := size; most <= 64; most++ {
			mustBeTable(t, "TableLimit of enough", impl.TableLimit(table, most), table.Fields, most)
		}
		if size > 0 {
			less := table.Fields[:len(table.Fields)-1]
			mustBeTable(t, "TableLimit of one less", impl.TableLimit(table, size-1), less, size-1)
		}
	}
}

// Wrong inputs: a limit that is none, and what is no table.
func TestTableLimitNone(t *testing.T) {
	for _, table := range fewTables() {
		for _, most := range []int{-1, -2, -64, 65, 66, 128, 256, 320, math.MinInt, math.MaxInt} {
			mustBeNoTable(t, "TableLimit of none", impl.TableLimit(table, most))
		}
	}
	for _, table := range noTables() {
		for _, most := range []int{-1, 0, 5, 36, 63, 64, 65} {
			mustBeNoTable(t, "TableLimit of no table", impl.TableLimit(table, most))
		}
	}
}

// Promise 26.
func TestTableAt(t *testing.T) {
	for _, table := range okTables() {
		for at, f := range fixedFields {
			mustBeAt(t, table, at+1, f)
		}
		for at, f := range table.Fields {
			mustBeAt(t, table, at+7, f)
		}
		behind := 7 + len(table.Fields)
		for _, at := range []int{0, -1, -6, -7, behind, behind + 1, behind + 6, 64, 1000, math.MinInt, math.MinInt + 1, math.MaxInt, math.MaxInt - 5} {
			mustBeNowhere(t, table, at)
		}
	}
}

// Wrong inputs: at what is no table there is no place.
func TestTableAtNone(t *testing.T) {
	for _, table := range noTables() {
		for at := -1; at <= 12; at++ {
			mustBeNowhere(t, table, at)
		}
	}
}

// Promise 27.
func TestTableFind(t *testing.T) {
	fields := okFields()
	for turn, table := range okTables() {
		asked := slices.Clone(table.Fields)
		for at := turn % 11; at < len(fields); at += 11 {
			asked = append(asked, fields[at])
		}
		for _, f := range table.Fields {
			asked = append(asked, impl.Field{Name: f.Name, Val: "none-such"}, impl.Field{Name: f.Name, Val: f.Val, Never: true})
		}
		for _, f := range asked {
			at, all := wantFind(table, f)
			mustFind(t, table, f, at, all)
		}
	}
	for _, table := range fewTables() {
		for _, f := range slices.Concat(table.Fields, fields) {
			mustBePlaceOf(t, table, f)
		}
	}
}

// mustBePlaceOf fails unless the place of a field is as the promise says, by TableAt alone.
func mustBePlaceOf(t *testing.T, table impl.Table, f impl.Field) {
	t.Helper()
	at, all := impl.TableFind(table, f)
	firstAll, firstName := 0, 0
	for place := 6 + len(table.Fields); place > 0; place-- {
		g, ok := impl.TableAt(table, place)
		if !ok {
			t.Fatalf("there is no place %d in %v", place, table)
		}
		if g.Name == f.Name {
			firstName = place
			if g.Val == f.Val {
				firstAll = place
			}
		}
	}
	if all != (firstAll > 0) || all && at != firstAll || !all && at != firstName {
		t.Fatalf("TableFind(%v, %v) is %d, %v, not %d or %d", table, f, at, all, firstAll, firstName)
	}
}

// Promise 27: what stands twice, fixed ones with another value, and values that are names.
func TestTableFindEdges(t *testing.T) {
	table := impl.Table{Max: 64, Fields: []impl.Field{
		{Name: ":status", Val: "5"}, {Name: "e", Val: "t"}, {Name: "e"}, {Name: "e", Val: "t"}, {Name: ":path"}, {Name: "kind", Val: "0"}, {Name: "te", Val: "e"},
	}}
	for _, c := range []struct {
		name, val string
		at        int
		all       bool
	}{
		{":status", "5", 7, true}, {":status", "0", 2, true}, {":status", "12", 3, true}, {":status", "1", 2, false}, {":status", "", 2, false},
		{"e", "t", 8, true}, {"e", "", 9, true}, {"e", "a", 8, false},
		{":path", "", 1, true}, {":path", "/up", 1, false},
		{"kind", "0", 12, true}, {"kind", "text", 4, true}, {"kind", "", 4, false},
		{"size", "", 5, true}, {"size", "0", 5, false},
		{"te", "e", 13, true}, {"te", "trailers", 6, true}, {"te", "", 6, false},
		{"t", "e", 0, false}, {"text", "kind", 0, false}, {"trailers", "te", 0, false}, {"", "e", 0, false},
	} {
		for _, never := range []bool{false, true} {
			mustFind(t, table, impl.Field{Name: c.name, Val: c.val, Never: never}, c.at, c.all)
		}
	}
}

// Wrong inputs: what is no field is not found, though there may be its name; in what is no table nothing is.
func TestTableFindNone(t *testing.T) {
	for _, table := range fewTables() {
		for _, f := range noFields() {
			mustFind(t, table, f, 0, false)
		}
	}
	for _, table := range noTables() {
		for _, f := range append([]impl.Field{{Name: "e"}, {Name: "kind"}, {}}, fixedFields...) {
			mustFind(t, table, f, 0, false)
		}
		for _, f := range table.Fields[:min(4, len(table.Fields))] {
			mustFind(t, table, f, 0, false)
		}
	}
}

// Promise 28.
func TestTableAddFound(t *testing.T) {
	fields := okFields()
	for turn, table := range okTables() {
		for at := turn % 7; at < len(fields); at += 7 {
			f := fields[at]
			if sizeOf([]impl.Field{f}) > table.Max {
				continue
			}
			want := 7
			if fixed := slices.Index(fixedFields, kept(f)); fixed >= 0 {
				want = fixed + 1
			}
			mustFind(t, impl.TableAdd(table, f), f, want, true)
		}
	}
}

// Promise 29.
func TestTableFixed(t *testing.T) {
	fixed := impl.TableFixed()
	if !slices.Equal(fixed, fixedFields) || len(fixed) != 6 {
		t.Fatalf("TableFixed is %v", fixed)
	}
	for _, f := range fixed {
		if !impl.FieldOk(f) || f.Never {
			t.Errorf("%v is not ok", f)
		}
	}
	for _, table := range okTables() {
		for at, f := range fixed {
			mustFind(t, table, f, at+1, true)
			mustBeAt(t, table, at+1, f)
		}
	}
}

// Promise 30.
func TestTableAddTwo(t *testing.T) {
	fields := okFields()
	for turn, table := range okTables() {
		for at := turn % 13; at < len(fields); at += 13 {
			one, two := fields[at], fields[(at*7+turn)%len(fields)]
			both := []impl.Field{kept(two), kept(one)}
			if sizeOf(both) > table.Max {
				continue
			}
			got := impl.TableAdd(impl.TableAdd(table, one), two)
			if len(got.Fields) < 2 || !slices.Equal(got.Fields[:2], both) {
				t.Fatalf("%v and %v, added to %v, are %v", one, two, table, got)
			}
			mustBeTable(t, "TableAdd of two", got, wantFit(append(both, table.Fields...), table.Max), table.Max)
		}
	}
}

// Promise 31.
func TestTableLimitNought(t *testing.T) {
	for _, table := range okTables() {
		none := impl.TableLimit(table, 0)
		mustBeTable(t, "TableLimit of 0", none, nil, 0)
	}
	none := impl.TableLimit(impl.Table{Fields: fieldRow([]int{5, 36}, 0), Max: 64}, 0)
	for _, f := range okFields() {
		mustBeTable(t, "TableAdd behind TableLimit of 0", impl.TableAdd(none, f), nil, 0)
	}
}

// Promise 32.
func TestTableLimitLess(t *testing.T) {
	for _, table := range fewTables() {
		for some := 0; some <= 64; some++ {
			first := impl.TableLimit(table, some)
			for less := some % 3; less <= some; less += 3 {
				mustBeTable(t, "TableLimit of less", impl.TableLimit(first, less), impl.TableLimit(table, less).Fields, less)
			}
		}
	}
}

// A limit that is larger again brings no field back, and leaves room for new ones.
func TestTableLimitMore(t *testing.T) {
	table := impl.Table{Fields: fieldRow([]int{5, 20, 36}, 0), Max: 64}
	more := impl.TableLimit(impl.TableLimit(table, 30), 64)
	mustBeTable(t, "TableLimit of more", more, table.Fields[:2], 64)
	mustBeTable(t, "TableAdd behind it", impl.TableAdd(more, sizedField(36, 1)), ahead(sizedField(36, 1), table.Fields[:2]), 64)
}

// mark is a field that no answer has.
var mark = impl.Field{Name: "mark", Val: "mark", Never: true}

// roomy is the table in memory of its own, with marks behind its end, and all of that memory.
func roomy(table impl.Table) (impl.Table, []impl.Field) {
	all := append(slices.Clone(table.Fields), mark, mark, mark)
	return impl.Table{Fields: all[:len(table.Fields)], Max: table.Max}, all
}

// scribble writes over a list, its spare room too.
func scribble(fields []impl.Field) {
	fields = fields[:cap(fields)]
	for at := range fields {
		fields[at] = impl.Field{Name: "scribble", Never: true}
	}
}

// tableCalls is what answers with a table, each of some kind: that adds, that loses, that adds what does not fit, and that leaves all.
func tableCalls() []func(impl.Table) impl.Table {
	return []func(impl.Table) impl.Table{
		func(t impl.Table) impl.Table { return impl.TableAdd(t, impl.Field{Name: "e"}) },
		func(t impl.Table) impl.Table { return impl.TableAdd(t, impl.Field{Name: "e", Never: true}) },
		func(t impl.Table) impl.Table { return impl.TableAdd(t, sizedField(36, 3)) },
		func(t impl.Table) impl.Table { return impl.TableAdd(t, impl.Field{}) },
		func(t impl.Table) impl.Table { return impl.TableLimit(t, 64) },
		func(t impl.Table) impl.Table { return impl.TableLimit(t, t.Max) },
		func(t impl.Table) impl.Table { return impl.TableLimit(t, 20) },
		func(t impl.Table) impl.Table { return impl.TableLimit(t, 0) },
		func(t impl.Table) impl.Table { return impl.TableLimit(t, 65) },
	}
}

// What is answered shares no memory with the argument, nothing is written there or behind its end, and two answers share none.
func TestTableMemory(t *testing.T) {
	for _, table := range append(okTables(), noTables()[:60]...) {
		for _, call := range tableCalls() {
			given, all := roomy(table)
			before := slices.Clone(all)
			one, two := call(given), call(given)
			want := slices.Clone(one.Fields)
			if !slices.Equal(all, before) {
				t.Fatalf("of %v the argument became %v", before, all)
			}
			scribble(one.Fields)
			if !slices.Equal(all, before) {
				t.Fatalf("the answer shares memory with %v", table)
			}
			if !slices.Equal(two.Fields, want) {
				t.Fatalf("two answers of %v share memory", table)
			}
			scribble(given.Fields)
			if !slices.Equal(two.Fields, want) {
				t.Fatalf("%v is kept by the answer", table)
			}
			if again := call(impl.Table{Fields: slices.Clip(slices.Clone(table.Fields)), Max: table.Max}); !slices.Equal(again.Fields, want) {
				t.Fatalf("of %v without spare room it is %v, not %v", table, again, want)
			}
		}
	}
}

// What just asks a table leaves it, and what is behind its end.
func TestTableAskedIsLeft(t *testing.T) {
	for _, table := range append(okTables(), noTables()[:60]...) {
		given, all := roomy(table)
		before := slices.Clone(all)
		impl.TableOk(given)
		impl.TableSize(given)
		for at := range 9 + len(given.Fields) {
			impl.TableAt(given, at)
		}
		impl.TableFind(given, impl.Field{Name: "kind", Val: "0"})
		impl.TableFind(given, impl.Field{Name: "none"})
		if !slices.Equal(all, before) {
			t.Fatalf("of %v the argument became %v", before, all)
		}
	}
}

// Nobody can change the fixed fields.
func TestTableFixedMemory(t *testing.T) {
	one, two := impl.TableFixed(), impl.TableFixed()
	scribble(one)
	if !slices.Equal(two, fixedFields) || !slices.Equal(impl.TableFixed(), fixedFields) {
		t.Fatalf("TableFixed became %v, %v", two, impl.TableFixed())
	}
	for at, f := range fixedFields {
		mustBeAt(t, impl.Table{}, at+1, f)
		mustFind(t, impl.Table{}, f, at+1, true)
	}
}

// liesIn says whether a text is a piece of the memory of another one.
func liesIn(piece, text string) bool {
	if piece == "" {
		return false
	}
	from, first := uintptr(unsafe.Pointer(unsafe.StringData(text))), uintptr(unsafe.Pointer(unsafe.StringData(piece)))
	return first >= from && first < from+uintptr(len(text))
}

// The words of an answer are no pieces of a text that was given.
func TestTableWordMemory(t *testing.T) {
	text := strings.Repeat("abcdefgh", 500)
	table := impl.Table{Fields: []impl.Field{{Name: text[:3], Val: text[8:12]}, {Name: text[100:101]}}, Max: 64}
	added := impl.TableAdd(table, impl.Field{Name: text[50:60], Val: text[7:9]})
	if len(added.Fields) != 3 {
		t.Fatal(added)
	}
	fields := slices.Concat(added.Fields, impl.TableLimit(table, 30).Fields)
	for _, at := range []int{7, 8} {
		f, _ := impl.TableAt(table, at)
		fields = append(fields, f)
	}
	for _, f := range fields {
		if f.Name == "" || liesIn(f.Name, text) || liesIn(f.Val, text) {
			t.Errorf("%v shares memory with what was given", f)
		}
	}
}
