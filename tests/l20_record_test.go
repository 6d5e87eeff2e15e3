package tests

import (
	"bytes"
	"fmt"
	"go/ast"
	"go/parser"
	"go/token"
	"math"
	"math/rand"
	"slices"
	"sync"
	"testing"

	"loop.example/g00063/impl"
)

var (
	valueBounds  = bounded{"value", -30000, 30000}
	smallChanges = bounded{"small change", -100, 100}
	changeBounds = bounded{"long change", -60000, 60000}
)

func sameRows(a, b [][]int) bool {
	return slices.EqualFunc(a, b, func(x, y []int) bool { return slices.Equal(x, y) })
}

func repeatedRow(many int, row ...int) [][]int {
	var rows [][]int
	for range many {
		rows = append(rows, slices.Clone(row))
	}
	return rows
}

// oneColumn has a row for each value.
func oneColumn(values ...int) [][]int {
	var rows [][]int
	for _, v := range values {
		rows = append(rows, []int{v})
	}
	return rows
}

// recordIsSo asks for each thing over all rows by itself.
func recordIsSo(rows [][]int) bool {
	wide, values := map[int]int{}, []int{}
	for _, row := range rows {
		wide[len(row)]++
		values = append(values, row...)
	}
	if len(rows) == 0 {
		return true
	}
	return len(rows) < 201 && len(wide) == 1 && len(rows[0]) > 0 && len(rows[0]) < 9 && allIn(values, -30000, 30000)
}

// threeBytes writes a number by division, the highest first.
func threeBytes(n int) []byte {
	return []byte{byte(n / 65536), byte(n / 256 % 256), byte(n % 256)}
}

func longByWords(change int) []byte {
	return append([]byte{255}, threeBytes(change+60000)...)
}

func changeByWords(change int) []byte {
	if smallChanges.has(change) {
		return []byte{byte(change + 100)}
	}
	return longByWords(change)
}

// packByWords looks back to the row ahead for each value, and counts at the end.
func packByWords(rows [][]int) ([]byte, bool) {
	if !recordIsSo(rows) {
		return nil, false
	}
	if len(rows) == 0 {
		return []byte{0, 0}, true
	}
	packed := []byte{byte(len(rows[0])), byte(len(rows))}
	for i := range rows {
		for j := range rows[0] {
			from := 0
			if i > 0 {
				from = rows[i-1][j]
			}
			packed = append(packed, changeByWords(rows[i][j]-from)...)
		}
	}
	if len(packed) > 1500 {
		return nil, false
	}
	return packed, true
}

// changeAt asks in the order of the document for what stands at a place: the change, how many
// bytes it has, the code.
func changeAt(b []byte, at int) (int, int, int) {
	if at >= len(b) {
		return 0, 0, impl.PackShort
	}
	if b[at] < 201 {
		return int(b[at]) - 100, 1, impl.PackWell
	}
	if b[at] < 255 {
		return 0, 0, impl.PackByte
	}
	if at+4 > len(b) {
		return 0, 0, impl.PackShort
	}
	change := (int(b[at+1])*256+int(b[at+2]))*256 + int(b[at+3]) - 60000
	if smallChanges.has(change) || !changeBounds.has(change) {
		return 0, 0, impl.PackByte
	}
	return change, 4, impl.PackWell
}

func headByWords(b []byte) (int, int) {
	switch {
	case len(b) == 0:
		return impl.PackShort, 0
	case b[0] > 8:
		return impl.PackByte, 0
	case len(b) == 1:
		return impl.PackShort, 1
	case b[1] > 200, b[0] == 0 && b[1] != 0, b[0] != 0 && b[1] == 0:
		return impl.PackByte, 1
	}
	return impl.PackWell, 0
}

// unpackByWords goes value by value, not row by row.
func unpackByWords(b []byte) ([][]int, int, int) {
	if code, place := headByWords(b); code != impl.PackWell {
		return nil, code, place
	}
	wide, many, at := int(b[0]), int(b[1]), 2
	var values []int
	for n := range wide * many {
		change, long, code := changeAt(b, at)
		if code == impl.PackShort {
			return nil, code, len(b)
		}
		if code != impl.PackWell {
			return nil, code, at
		}
		if n >= wide {
			change += values[n-wide]
		}
		if !valueBounds.has(change) {
			return nil, impl.PackValue, at
		}
		values = append(values, change)
		at += long
	}
	if at < len(b) {
		return nil, impl.PackMore, at
	}
	var rows [][]int
	for len(values) > 0 {
		rows = append(rows, slices.Clone(values[:wide]))
		values = values[wide:]
	}
	return rows, impl.PackWell, 0
}

func columnByWords(rows [][]int, at int) ([]int, bool) {
	if !recordIsSo(rows) || len(rows) == 0 || at < 0 || at >= len(rows[0]) {
		return nil, false
	}
	column := make([]int, len(rows))
	for i := range rows {
		column[i] = rows[i][at]
	}
	return column, true
}

func eventsByWords(rows [][]int, at, limit int) ([]int, bool) {
	column, ok := columnByWords(rows, at)
	var events []int
	for i := range column {
		if column[i] > limit && (i == 0 || column[i-1] <= limit) {
			events = append(events, i)
		}
	}
	return events, ok
}

// sameByWords lays both records out with a value that no record has where one of them lacks.
func sameByWords(a, b [][]int) (int, int, bool) {
	if !recordIsSo(a) || !recordIsSo(b) {
		return -2, -2, false
	}
	laid := func(rows [][]int, i, j int) int {
		if i < len(rows) && j < len(rows[i]) {
			return rows[i][j]
		}
		return math.MaxInt
	}
	for i := range 200 {
		for j := range 8 {
			if laid(a, i, j) != laid(b, i, j) {
				return i, j, false
			}
		}
	}
	return -1, -1, true
}

func mustPack(t *testing.T, rows [][]int) []byte {
	t.Helper()
	packed, ok := impl.Pack20(rows)
	if !ok {
		t.Fatal("refused:", rows)
	}
	return packed
}

// packHolds tells whether a record is packed.
func packHolds(t *testing.T, rows [][]int) bool {
	t.Helper()
	if impl.RecordOk(rows) != recordIsSo(rows) {
		t.Fatal(rows, impl.RecordOk(rows))
	}
	packed, ok := impl.Pack20(rows)
	if want, wantOk := packByWords(rows); ok != wantOk || !bytes.Equal(packed, want) {
		t.Fatal(rows, packed, ok, want, wantOk)
	}
	return ok
}

// unpackHolds tells the code.
func unpackHolds(t *testing.T, b []byte) int {
	t.Helper()
	rows, code, place := impl.Unpack20(b)
	if want, wantCode, wantPlace := unpackByWords(b); code != wantCode || place != wantPlace || !sameRows(rows, want) {
		t.Fatal(b, rows, code, place, want, wantCode, wantPlace)
	}
	return code
}

func lookHolds(t *testing.T, rows [][]int, at, limit int) {
	t.Helper()
	column, ok := impl.Column(rows, at)
	if want, wantOk := columnByWords(rows, at); ok != wantOk || !slices.Equal(column, want) {
		t.Fatal(rows, at, column, ok, want, wantOk)
	}
	events, ok := impl.Events20(rows, at, limit)
	if want, wantOk := eventsByWords(rows, at, limit); ok != wantOk || !slices.Equal(events, want) {
		t.Fatal(rows, at, limit, events, ok, want, wantOk)
	}
}

// sameHolds asks both ways, and tells whether the records are alike.
func sameHolds(t *testing.T, a, b [][]int) bool {
	t.Helper()
	row, column, same := impl.Same20(a, b)
	if wantRow, wantColumn, wantSame := sameByWords(a, b); row != wantRow || column != wantColumn || same != wantSame {
		t.Fatal(a, b, row, column, same, wantRow, wantColumn, wantSame)
	}
	if backRow, backColumn, back := impl.Same20(b, a); backRow != row || backColumn != column || back != same {
		t.Fatal(a, b, row, column, same, "turned about", backRow, backColumn, back)
	}
	return same
}

func TestLimitsOfTheRecorder(t *testing.T) {
	codes := []int{impl.PackWell, impl.PackShort, impl.PackByte, impl.PackValue, impl.PackMore}
	if impl.MaxRecord != 200 || impl.MaxPack != 1500 || !slices.Equal(codes, []int{0, 1, 2, 3, 4}) {
		t.Error(impl.MaxRecord, impl.MaxPack, codes)
	}
}

func TestRecordOkAtBounds(t *testing.T) {
	holds := func(name string, rows [][]int, want bool) {
		t.Helper()
		if impl.RecordOk(rows) != want {
			t.Errorf("%s: %v", name, !want)
		}
		if _, ok := impl.Pack20(rows); ok && !want {
			t.Errorf("%s: packed", name)
		}
		if column, ok := impl.Column(rows, 0); ok != (want && len(rows) > 0) || !ok && len(column) != 0 {
			t.Errorf("%s: column %v %v", name, column, ok)
		}
	}
	holds("nothing", nil, true)
	holds("no rows", [][]int{}, true)
	holds("the most rows", repeatedRow(200, 1), true)
	holds("one row more", repeatedRow(201, 1), false)
	holds("many rows more", repeatedRow(256, 1), false)
	holds("rows without values beyond the most", make([][]int, 100000), false)
	for _, wide := range []int{1, 2, 7, 8} {
		holds("as wide as may be", [][]int{make([]int, wide)}, true)
		holds("as wide as may be, two rows", repeatedRow(2, make([]int, wide)...), true)
	}
	for _, wide := range []int{0, 9, 10, 256, 257, 264} {
		holds("not as wide", [][]int{make([]int, wide)}, false)
		holds("not as wide, two rows", repeatedRow(2, make([]int, wide)...), false)
	}
	holds("a row that is nothing", [][]int{nil}, false)
	for _, v := range valueBounds.edges() {
		holds("a value just within", [][]int{{0, v}, {v, 0}}, true)
	}
	for _, v := range valueBounds.beyond() {
		holds("a value beyond, first", [][]int{{v, 0}, {0, 0}}, false)
		holds("a value beyond, last", [][]int{{0, 0}, {0, v}}, false)
		holds("a value beyond, alone", [][]int{{v}}, false)
	}
	holds("the second row is shorter", [][]int{{1, 2}, {1}}, false)
	holds("the second row is longer", [][]int{{1}, {1, 2}}, false)
	holds("the second row is empty", [][]int{{1}, {}}, false)
	holds("the first row is empty", [][]int{{}, {1}}, false)
	holds("the last row is another one", append(repeatedRow(199, 1, 2), []int{1, 2, 3}), false)
	holds("the one in the middle is another one", [][]int{{1, 2}, {1}, {1, 2}}, false)
}

func TestPackByHand(t *testing.T) {
	cases := []struct {
		name string
		rows [][]int
		want []byte
	}{
		{"no rows", nil, []byte{0, 0}},
		{"0", oneColumn(0), []byte{1, 1, 100}},
		{"the first from 0", oneColumn(7), []byte{1, 1, 107}},
		{"the second from the first", oneColumn(7, 9, 9, 4), []byte{1, 4, 107, 102, 100, 95}},
		{"100 in one byte", oneColumn(100), []byte{1, 1, 200}},
		{"-100 in one byte", oneColumn(-100), []byte{1, 1, 0}},
		{"101 in four", oneColumn(101), []byte{1, 1, 255, 0, 234, 197}},
		{"-101 in four", oneColumn(-101), []byte{1, 1, 255, 0, 233, 251}},
		{"100 more", oneColumn(50, 150), []byte{1, 2, 150, 200}},
		{"101 more", oneColumn(50, 151), []byte{1, 2, 150, 255, 0, 234, 197}},
		{"100 less", oneColumn(50, -50), []byte{1, 2, 150, 0}},
		{"101 less", oneColumn(50, -51), []byte{1, 2, 150, 255, 0, 233, 251}},
		{"the greatest value", oneColumn(30000), []byte{1, 1, 255, 1, 95, 144}},
		{"the least value", oneColumn(-30000), []byte{1, 1, 255, 0, 117, 48}},
		{"the greatest change", oneColumn(-30000, 30000), []byte{1, 2, 255, 0, 117, 48, 255, 1, 212, 192}},
		{"the least change", oneColumn(30000, -30000), []byte{1, 2, 255, 1, 95, 144, 255, 0, 0, 0}},
		{"each column by itself", [][]int{{1, 2, 3}, {3, 2, 1}}, []byte{3, 2, 101, 102, 103, 102, 100, 98}},
		{"eight columns", [][]int{{1, 2, 3, 4, 5, 6, 7, 8}}, []byte{8, 1, 101, 102, 103, 104, 105, 106, 107, 108}},
		{"both kinds", [][]int{{0, 500}, {500, 500}}, []byte{2, 2, 100, 255, 0, 236, 84, 255, 0, 236, 84, 100}},
	}
	for _, c := range cases {
		if got, ok := impl.Pack20(c.rows); !ok || !bytes.Equal(got, c.want) {
			t.Errorf("%s: %v %v, not %v", c.name, got, ok, c.want)
		}
		if rows, code, place := impl.Unpack20(c.want); code != impl.PackWell || place != 0 || !sameRows(rows, c.rows) {
			t.Errorf("%s: read as %v %v %v", c.name, rows, code, place)
		}
	}
	most := mustPack(t, repeatedRow(200, 0))
	if len(most) != 202 || most[1] != 200 {
		t.Error("the most rows:", most)
	}
}

// Each change from the least to the greatest, in the second row and, where it is a value, in the first.
func TestEveryChange(t *testing.T) {
	for change := -60000; change <= 60000; change++ {
		from := -change / 2
		rows := oneColumn(from, from+change)
		if !packHolds(t, rows) {
			t.Fatal("not packed:", rows)
		}
		if got, code, place := impl.Unpack20(mustPack(t, rows)); code != impl.PackWell || place != 0 || !sameRows(got, rows) {
			t.Fatal(rows, got, code, place)
		}
		if valueBounds.has(change) {
			packHolds(t, oneColumn(change))
		}
	}
}

// recordWith has, value by value, long changes where it is told so, and none elsewhere.
func recordWith(wide, many int, isLong func(n int) bool) [][]int {
	now := make([]int, wide)
	var rows [][]int
	for i := range many {
		for j := range now {
			if isLong(i*wide + j) {
				now[j] = 101 - now[j]
			}
		}
		rows = append(rows, slices.Clone(now))
	}
	return rows
}

// Records of each size whose bytes are just at MaxPack and about it, with the long changes at
// the front, at the end, and one apart.
func TestPackWithRoomAndWithout(t *testing.T) {
	fits, full := 0, 0
	for wide := 1; wide <= 8; wide++ {
		for many := 1; many <= 200; many++ {
			values := wide * many
			for total := 1495; total <= 1505; total++ {
				rest := total - 2 - values
				longs := rest / 3
				if rest < 0 || rest%3 != 0 || longs > values {
					continue
				}
				for _, isLong := range []func(n int) bool{
					func(n int) bool { return n < longs },
					func(n int) bool { return n >= values-longs },
					func(n int) bool { return n*longs/values != (n+1)*longs/values },
				} {
					rows := recordWith(wide, many, isLong)
					packed, ok := impl.Pack20(rows)
					if want, _ := packByWords(rows); ok != (total <= 1500) || !bytes.Equal(packed, want) {
						t.Fatal(wide, many, total, ok, packed)
					}
					if ok && len(packed) != total {
						t.Fatal(wide, many, total, len(packed))
					}
					if total == 1500 {
						fits++
					} else if total == 1501 {
						full++
					}
				}
			}
		}
	}
	if fits < 100 || full < 100 {
		t.Error("too few were just at the bound:", fits, full)
	}
}

func TestPackWithoutRoomByFar(t *testing.T) {
	all := func(int) bool { return true }
	none := func(int) bool { return false }
	for name, rows := range map[string][][]int{
		"the most values, small": recordWith(8, 200, none),
		"the most values, long":  recordWith(8, 200, all),
		"long from the first on": recordWith(8, 47, all),
		"the most that is small": repeatedRow(188, 1, 2, 3, 4, 5, 6, 7, 8),
	} {
		if packed, ok := impl.Pack20(rows); ok || len(packed) != 0 {
			t.Error(name, len(packed), ok)
		}
		if !impl.RecordOk(rows) {
			t.Error(name, "is a record all the same")
		}
	}
	// Having panicked once, it packs as ever.
	if packed := mustPack(t, oneColumn(3)); !bytes.Equal(packed, []byte{1, 1, 103}) {
		t.Error(packed)
	}
}

// Unpack20 names no bound of bytes: what is longer than MaxPack is read all the same, and is a
// record that Pack20 has no room for.
func TestUnpackIsNotBoundByRoom(t *testing.T) {
	b := append([]byte{8, 200}, slices.Repeat([]byte{100}, 1600)...)
	rows, code, place := impl.Unpack20(b)
	if code != impl.PackWell || place != 0 || !sameRows(rows, repeatedRow(200, 0, 0, 0, 0, 0, 0, 0, 0)) {
		t.Error(len(rows), code, place)
	}
	if packed, ok := impl.Pack20(rows); ok || len(packed) != 0 {
		t.Error(len(packed), ok)
	}
	if code := unpackHolds(t, append(b, 1)); code != impl.PackMore {
		t.Error(code)
	}
}

// tells also holds that a code leaves nothing beside it.
func tells(t *testing.T, name string, b []byte, wantCode, wantPlace int) {
	t.Helper()
	rows, code, place := impl.Unpack20(b)
	if code != wantCode || place != wantPlace || code != impl.PackWell && len(rows) != 0 {
		t.Errorf("%s: %v: %v %d at %d, not %d at %d", name, b, rows, code, place, wantCode, wantPlace)
	}
	unpackHolds(t, b)
}

func TestUnpackHeadByHand(t *testing.T) {
	tells(t, "nothing", nil, impl.PackShort, 0)
	tells(t, "no bytes", []byte{}, impl.PackShort, 0)
	tells(t, "one byte", []byte{1}, impl.PackShort, 1)
	tells(t, "one byte of 0", []byte{0}, impl.PackShort, 1)
	tells(t, "one byte of 8", []byte{8}, impl.PackShort, 1)
	tells(t, "one byte of 9", []byte{9}, impl.PackByte, 0)
	tells(t, "one byte of 255", []byte{255}, impl.PackByte, 0)
	tells(t, "no rows", []byte{0, 0}, impl.PackWell, 0)
	tells(t, "no rows, one left", []byte{0, 0, 0}, impl.PackMore, 2)
	tells(t, "no rows, more left", []byte{0, 0, 201, 9, 9}, impl.PackMore, 2)
	tells(t, "the first alone is 0", []byte{0, 1, 100}, impl.PackByte, 1)
	tells(t, "the first alone is 0, the most rows", []byte{0, 200}, impl.PackByte, 1)
	tells(t, "the second alone is 0", []byte{1, 0}, impl.PackByte, 1)
	tells(t, "the second alone is 0, and one left", []byte{8, 0, 100}, impl.PackByte, 1)
	tells(t, "eight columns", []byte{8, 1, 100, 100, 100, 100, 100, 100, 100, 100}, impl.PackWell, 0)
	tells(t, "nine columns", []byte{9, 1, 100, 100, 100, 100, 100, 100, 100, 100, 100}, impl.PackByte, 0)
	rows := slices.Repeat([]byte{100}, 201)
	tells(t, "200 rows", append([]byte{1, 200}, rows[:200]...), impl.PackWell, 0)
	tells(t, "200 rows, one fewer there", append([]byte{1, 200}, rows[:199]...), impl.PackShort, 201)
	tells(t, "200 rows, one more there", append([]byte{1, 200}, rows...), impl.PackMore, 202)
	tells(t, "201 rows", append([]byte{1, 201}, rows...), impl.PackByte, 1)
	tells(t, "201 rows, none there", []byte{1, 201}, impl.PackByte, 1)
	tells(t, "201 rows of no columns", []byte{0, 201}, impl.PackByte, 1)
	tells(t, "both too great", []byte{9, 201}, impl.PackByte, 0)
	tells(t, "nine columns, no rows", []byte{9, 0}, impl.PackByte, 0)
	tells(t, "rows, and no more", []byte{1, 1}, impl.PackShort, 2)
	tells(t, "the most, and no more", []byte{8, 200}, impl.PackShort, 2)
}

func afterHead(wide, many byte, parts ...[]byte) []byte {
	return append([]byte{wide, many}, bytes.Join(parts, nil)...)
}

func TestUnpackChangesByHand(t *testing.T) {
	for _, b := range []byte{0, 1, 99, 100, 101, 199, 200} {
		tells(t, "a small change", []byte{1, 1, b}, impl.PackWell, 0)
	}
	for b := byte(201); b < 255; b++ {
		tells(t, "a byte that is none", []byte{1, 1, b}, impl.PackByte, 2)
		tells(t, "a byte that is none, with three behind", []byte{1, 1, b, 1, 0, 0}, impl.PackByte, 2)
		tells(t, "a byte that is none, later", []byte{2, 2, 100, 100, 100, b}, impl.PackByte, 5)
	}
	for _, change := range []int{-100, -99, -1, 0, 1, 99, 100} {
		tells(t, "small in four bytes", afterHead(1, 1, longByWords(change)), impl.PackByte, 2)
		tells(t, "small in four bytes, later", afterHead(1, 2, []byte{100}, longByWords(change)), impl.PackByte, 3)
	}
	for _, change := range []int{-101, 101, -30000, 30000, -29999, 29999} {
		tells(t, "long", afterHead(1, 1, longByWords(change)), impl.PackWell, 0)
	}
	for _, change := range []int{-30001, 30001, -59999, 59999, -60000, 60000} {
		tells(t, "a value beyond, first", afterHead(1, 1, longByWords(change)), impl.PackValue, 2)
		tells(t, "a value beyond, second", afterHead(2, 1, []byte{100}, longByWords(change)), impl.PackValue, 3)
	}
	least, most := longByWords(-30000), longByWords(30000)
	tells(t, "from the least to the greatest", afterHead(1, 2, least, longByWords(60000)), impl.PackWell, 0)
	tells(t, "from the greatest to the least", afterHead(1, 2, most, longByWords(-60000)), impl.PackWell, 0)
	tells(t, "a change one beyond the greatest", afterHead(1, 2, least, longByWords(60001)), impl.PackByte, 6)
	tells(t, "a first change one beyond the greatest", afterHead(1, 1, longByWords(60001)), impl.PackByte, 2)
	tells(t, "a change of all bits", []byte{1, 1, 255, 255, 255, 255}, impl.PackByte, 2)
	tells(t, "a change of the highest byte", []byte{1, 1, 255, 2, 0, 0}, impl.PackByte, 2)
	tells(t, "one above the greatest value", afterHead(1, 2, most, []byte{101}), impl.PackValue, 6)
	tells(t, "one below the least value", afterHead(1, 2, least, []byte{99}), impl.PackValue, 6)
	tells(t, "just the greatest value", afterHead(1, 3, most, []byte{99, 101}), impl.PackWell, 0)
	tells(t, "just the least value", afterHead(1, 3, least, []byte{101, 99}), impl.PackWell, 0)
	tells(t, "long to just the greatest", afterHead(1, 2, longByWords(-200), longByWords(30200)), impl.PackWell, 0)
	tells(t, "long to one above", afterHead(1, 2, longByWords(-200), longByWords(30201)), impl.PackValue, 6)
	tells(t, "long to just the least", afterHead(1, 2, longByWords(200), longByWords(-30200)), impl.PackWell, 0)
	tells(t, "long to one below", afterHead(1, 2, longByWords(200), longByWords(-30201)), impl.PackValue, 6)
	tells(t, "above in the second column", afterHead(2, 2, []byte{100}, most, []byte{101, 101}), impl.PackValue, 8)
	tells(t, "above, but in another column", afterHead(2, 2, []byte{100}, most, []byte{101, 100}), impl.PackWell, 0)
}

func TestUnpackEndsByHand(t *testing.T) {
	tells(t, "ends ahead of a change", []byte{1, 2, 100}, impl.PackShort, 3)
	tells(t, "ends within a row", []byte{2, 1, 100}, impl.PackShort, 3)
	tells(t, "ends at a row's end", []byte{2, 2, 100, 100}, impl.PackShort, 4)
	tells(t, "ends behind a mark", []byte{1, 1, 255}, impl.PackShort, 3)
	tells(t, "ends one behind a mark", []byte{1, 1, 255, 0}, impl.PackShort, 4)
	tells(t, "ends two behind a mark", []byte{1, 1, 255, 1, 0}, impl.PackShort, 5)
	tells(t, "ends just at the end", []byte{1, 1, 255, 1, 0, 0}, impl.PackWell, 0)
	tells(t, "ends behind a mark, later", []byte{1, 2, 100, 255, 1}, impl.PackShort, 5)
	tells(t, "lacks, of what would be too great", []byte{1, 1, 255, 255, 255}, impl.PackShort, 5)
	tells(t, "lacks, of what would be small", []byte{1, 1, 255, 0, 234}, impl.PackShort, 5)
	tells(t, "lacks, of what would be a value beyond", []byte{1, 1, 255, 0, 0}, impl.PackShort, 5)
	tells(t, "one byte left", []byte{1, 1, 100, 100}, impl.PackMore, 3)
	tells(t, "one byte left that is none", []byte{1, 1, 100, 201}, impl.PackMore, 3)
	tells(t, "a mark left", []byte{1, 1, 100, 255}, impl.PackMore, 3)
	tells(t, "many left", []byte{1, 1, 255, 1, 0, 0, 1, 2, 3, 4, 5}, impl.PackMore, 6)
	tells(t, "a million bytes", slices.Repeat([]byte{8}, 1000000), impl.PackMore, 66)
	tells(t, "a million bytes of 0", make([]byte, 1000000), impl.PackMore, 2)
}

func TestUnpackTellsTheFirstFault(t *testing.T) {
	big := longByWords(60000)
	tells(t, "two bytes that are none", []byte{1, 2, 201, 202}, impl.PackByte, 2)
	tells(t, "a byte that is none, then it ends", []byte{1, 2, 254}, impl.PackByte, 2)
	tells(t, "a byte that is none, then bytes are left", []byte{1, 1, 254, 1}, impl.PackByte, 2)
	tells(t, "a value beyond, then a byte that is none", afterHead(1, 2, big, []byte{201}), impl.PackValue, 2)
	tells(t, "a byte that is none, then a value beyond", afterHead(1, 2, []byte{201}, big), impl.PackByte, 2)
	tells(t, "a value beyond, then it ends", afterHead(1, 2, big), impl.PackValue, 2)
	tells(t, "a value beyond, then bytes are left", afterHead(1, 1, big, []byte{9}), impl.PackValue, 2)
	tells(t, "small in four bytes, then a value beyond", afterHead(1, 2, longByWords(5), big), impl.PackByte, 2)
	tells(t, "a value beyond, then small in four bytes", afterHead(1, 2, big, longByWords(5)), impl.PackValue, 2)
	tells(t, "both of one change", afterHead(1, 2, longByWords(30000), longByWords(1)), impl.PackByte, 6)
	tells(t, "the first byte, then the second", []byte{9, 201, 201}, impl.PackByte, 0)
	tells(t, "the second byte, then a change", []byte{1, 201, 201}, impl.PackByte, 1)
	tells(t, "unlike noughts, then a change", []byte{0, 1, 201}, impl.PackByte, 1)
	tells(t, "unlike noughts, then it ends", []byte{1, 0}, impl.PackByte, 1)
}

// Each head with nothing behind it, and with a byte.
func TestEveryHead(t *testing.T) {
	codes := map[int]int{}
	for first := range 256 {
		unpackHolds(t, []byte{byte(first)})
		for second := range 256 {
			codes[unpackHolds(t, []byte{byte(first), byte(second)})]++
			unpackHolds(t, []byte{byte(first), byte(second), 100})
		}
	}
	if codes[impl.PackWell] != 1 || codes[impl.PackShort] != 8*200 || codes[impl.PackByte] != 65536-1-8*200 {
		t.Error(codes)
	}
}

// Each number of three bytes about those that are changes, as the first change and as a later one.
func TestEveryLongChange(t *testing.T) {
	ask := func(n int) {
		t.Helper()
		unpackHolds(t, afterHead(1, 1, []byte{255}, threeBytes(n)))
		unpackHolds(t, afterHead(1, 2, longByWords(30000), []byte{255}, threeBytes(n)))
		unpackHolds(t, afterHead(1, 2, longByWords(-30000), []byte{255}, threeBytes(n)))
	}
	for n := range 121000 {
		ask(n)
	}
	for n := 121000; n < 1<<24; n += 997 {
		ask(n)
	}
	ask(1<<24 - 1)
}

func TestColumnByHand(t *testing.T) {
	rows := [][]int{{1, 2, 3}, {4, 5, 6}}
	for at, want := range [][]int{{1, 4}, {2, 5}, {3, 6}} {
		if got, ok := impl.Column(rows, at); !ok || !slices.Equal(got, want) {
			t.Error(at, got, ok)
		}
	}
	for _, at := range append([]int{-1, 3, 4, 8, 256}, farNumbers...) {
		if got, ok := impl.Column(rows, at); ok || len(got) != 0 {
			t.Error(at, got, ok)
		}
		if got, ok := impl.Events20(rows, at, 0); ok || len(got) != 0 {
			t.Error(at, got, ok)
		}
	}
	for _, at := range append([]int{-1, 0, 1}, farNumbers...) {
		for _, none := range [][][]int{nil, {}} {
			if got, ok := impl.Column(none, at); ok || len(got) != 0 {
				t.Error("of no rows:", at, got, ok)
			}
			if got, ok := impl.Events20(none, at, 0); ok || len(got) != 0 {
				t.Error("of no rows:", at, got, ok)
			}
		}
	}
	if got, ok := impl.Column([][]int{{1, 2}, {3}}, 0); ok || len(got) != 0 {
		t.Error("of no record:", got, ok)
	}
}

func TestEventsByHand(t *testing.T) {
	rows := oneColumn(5, 6, 4, 5, 7, 7, 1, -3, 6)
	cases := []struct {
		name  string
		limit int
		want  []int
	}{
		{"never reached", 8, nil},
		{"just reached, and never above", 7, nil},
		{"above in two rows in a row", 6, []int{4}},
		{"again and again", 5, []int{1, 4, 8}},
		{"the first row is above", 4, []int{0, 3, 8}},
		{"from the first row on", 3, []int{0, 8}},
		{"below 0", -3, []int{0, 8}},
		{"all are above", -4, []int{0}},
		{"far below", -30001, []int{0}},
		{"far above", 30001, nil},
		{"the least number", math.MinInt, []int{0}},
		{"one above the least number", math.MinInt + 1, []int{0}},
		{"the greatest number", math.MaxInt, nil},
		{"one below the greatest number", math.MaxInt - 1, nil},
	}
	for _, c := range cases {
		if got, ok := impl.Events20(rows, 0, c.limit); !ok || !slices.Equal(got, c.want) {
			t.Errorf("%s: %v %v, not %v", c.name, got, ok, c.want)
		}
	}
	two := [][]int{{30000, -30000}, {-30000, 30000}, {30000, 30000}}
	for at, want := range [][]int{{0, 2}, {1}} {
		for _, limit := range []int{-30000, 0, 29999} {
			if got, ok := impl.Events20(two, at, limit); !ok || !slices.Equal(got, want) {
				t.Error(at, limit, got, ok)
			}
		}
	}
	if got, ok := impl.Events20(oneColumn(1, 30001), 0, 0); ok || len(got) != 0 {
		t.Error("of no record:", got, ok)
	}
}

func TestSameByHand(t *testing.T) {
	rows := [][]int{{1, 2}, {3, 4}, {5, 6}}
	wrong := oneColumn(30001)
	cases := []struct {
		name        string
		a, b        [][]int
		row, column int
		same        bool
	}{
		{"alike", rows, [][]int{{1, 2}, {3, 4}, {5, 6}}, -1, -1, true},
		{"one with itself", rows, rows, -1, -1, true},
		{"both are none", nil, [][]int{}, -1, -1, true},
		{"the first value", rows, [][]int{{0, 2}, {3, 4}, {5, 6}}, 0, 0, false},
		{"the last value", rows, [][]int{{1, 2}, {3, 4}, {5, 7}}, 2, 1, false},
		{"one in the middle", rows, [][]int{{1, 2}, {3, 5}, {6, 7}}, 1, 1, false},
		{"a later column of an earlier row", rows, [][]int{{1, 3}, {0, 4}, {5, 6}}, 0, 1, false},
		{"a row more", rows, rows[:2], 2, 0, false},
		{"none and some", nil, rows, 0, 0, false},
		{"a column more", rows[:1], [][]int{{1, 2, 0}}, 0, 2, false},
		{"a column more, and another value ahead", rows[:1], [][]int{{1, 3, 0}}, 0, 1, false},
		{"a column more, and a row more", rows, [][]int{{1, 2, 3}}, 0, 2, false},
		{"a column more, and a later value", rows, [][]int{{1}, {9}, {5}}, 0, 1, false},
		{"one column and eight", oneColumn(0), [][]int{{0, 0, 0, 0, 0, 0, 0, 0}}, 0, 1, false},
		{"the most rows", repeatedRow(200, 1), append(repeatedRow(199, 1), []int{2}), 199, 0, false},
		{"one is no record", wrong, rows, -2, -2, false},
		{"one is no record, the other none", wrong, nil, -2, -2, false},
		{"both are no record", wrong, wrong, -2, -2, false},
		{"too many rows", repeatedRow(201, 1), repeatedRow(200, 1), -2, -2, false},
		{"no record behind what differs", [][]int{{1}, {2}}, [][]int{{3}, {2, 2}}, -2, -2, false},
		{"too wide, alike", [][]int{make([]int, 9)}, [][]int{make([]int, 9)}, -2, -2, false},
	}
	for _, c := range cases {
		if row, column, same := impl.Same20(c.a, c.b); row != c.row || column != c.column || same != c.same {
			t.Errorf("%s: %d %d %v", c.name, row, column, same)
		}
		sameHolds(t, c.a, c.b)
	}
}

// valueBehind goes on by little, by much, or to an edge.
func valueBehind(r *rand.Rand, from int) int {
	switch r.Intn(8) {
	case 0:
		return -30000 + r.Intn(60001)
	case 1:
		return []int{-30000, -29900, 0, 29900, 30000}[r.Intn(5)]
	case 2:
		from += []int{-101, -100, 100, 101}[r.Intn(4)]
	default:
		from += r.Intn(41) - 20
	}
	return min(max(from, -30000), 30000)
}

func recordFrom(r *rand.Rand) [][]int {
	many := r.Intn(8)
	switch r.Intn(8) {
	case 0:
		many = 200 - r.Intn(12)
	case 1:
		many = 1 + r.Intn(40)
	}
	now := make([]int, 1+r.Intn(8))
	var rows [][]int
	for range many {
		for i := range now {
			now[i] = valueBehind(r, now[i])
		}
		rows = append(rows, slices.Clone(now))
	}
	return rows
}

// spoilRecord leaves a record mostly wrong, in one thing.
func spoilRecord(r *rand.Rand, rows [][]int) [][]int {
	if len(rows) == 0 {
		return [][]int{make([]int, 9*r.Intn(2))}
	}
	at := r.Intn(len(rows))
	switch r.Intn(5) {
	case 0:
		rows[at][r.Intn(len(rows[at]))] = append(valueBounds.beyond(), valueBounds.edges()...)[r.Intn(12)]
	case 1:
		rows[at] = rows[at][1:]
	case 2:
		rows[at] = append(rows[at], 0)
	case 3:
		for len(rows) < 200+r.Intn(3) {
			rows = append(rows, slices.Clone(rows[0]))
		}
	case 4:
		wide := 8 + r.Intn(2)
		for i := range rows {
			rows[i] = make([]int, wide)
		}
	}
	return rows
}

func TestRecordsAreAsTheWordsSay(t *testing.T) {
	r := rand.New(rand.NewSource(201))
	told := map[string]int{}
	for range 20000 {
		rows := recordFrom(r)
		if r.Intn(6) == 0 {
			rows = spoilRecord(r, rows)
		}
		other := recordFrom(r)
		if r.Intn(2) == 0 {
			other = nearlyLike(r, rows)
		}
		switch {
		case packHolds(t, rows):
			told["packed"]++
		case impl.RecordOk(rows):
			told["no room"]++
		default:
			told["no record"]++
		}
		if sameHolds(t, rows, other) {
			told["alike"]++
		}
		limit := append([]int{0, -30000, 30000, -30001, 30001}, farNumbers...)[r.Intn(5+len(farNumbers))]
		lookHolds(t, rows, r.Intn(11)-1, limit)
		lookHolds(t, rows, r.Intn(3), r.Intn(200)-100)
	}
	for _, name := range []string{"packed", "no room", "no record", "alike"} {
		if told[name] < 300 {
			t.Error("too few of a kind were tried:", told)
		}
	}
}

// nearlyLike has a copy of a record, or one that differs in one thing.
func nearlyLike(r *rand.Rand, rows [][]int) [][]int {
	var other [][]int
	for _, row := range rows {
		other = append(other, slices.Clone(row))
	}
	if len(rows) == 0 {
		return other
	}
	at := r.Intn(len(rows))
	switch r.Intn(5) {
	case 0:
		other = other[:at]
	case 1:
		for i := range other {
			other[i] = append(other[i], 0)
		}
	case 2:
		if len(other[at]) > 0 {
			other[at][r.Intn(len(other[at]))] += r.Intn(3) - 1
		}
	}
	return other
}

// bytesFrom draws bytes that are read, nearly read, and nowhere near it.
func bytesFrom(r *rand.Rand) []byte {
	b, ok := packByWords(recordFrom(r))
	if !ok {
		b = []byte{1, 2, 101, 102}
	}
	at := r.Intn(len(b))
	switch r.Intn(10) {
	case 0:
		b[at] = byte(r.Intn(256))
	case 1:
		b[at] = []byte{0, 99, 100, 101, 200, 201, 254, 255}[r.Intn(8)]
	case 2:
		b = b[:at]
	case 3:
		b = append(b, make([]byte, 1+r.Intn(3))...)
	case 4:
		b[r.Intn(2)] = []byte{0, 1, 8, 9, 199, 200, 201}[r.Intn(7)]
	case 5:
		b = slices.Insert(b, at, longByWords(r.Intn(601)-300)...)
	case 6:
		b = slices.Insert(b, at, longByWords([]int{-60000, 60000, 60001, -30000, 30000, 30001}[r.Intn(6)])...)
	case 7:
		b = slices.Delete(b, at, at+1)
	}
	return b
}

// Promise 20: bytes that are read are packed as themselves.
func TestBytesThatAreReadArePackedAsThemselves(t *testing.T) {
	r := rand.New(rand.NewSource(202))
	codes := map[int]int{}
	for range 60000 {
		b := bytesFrom(r)
		rows, code, _ := impl.Unpack20(b)
		codes[code]++
		unpackHolds(t, b)
		if code == impl.PackWell && !bytes.Equal(mustPack(t, rows), b) {
			t.Fatal("packed as others:", b, rows)
		}
	}
	for code := range 5 {
		if codes[code] < 500 {
			t.Error("too few of a code were tried:", codes)
		}
	}
}

// Promise 20, for all bytes of up to seven, each of few that matter.
func TestAllShortBytesArePackedAsThemselves(t *testing.T) {
	few := []byte{0, 1, 2, 99, 100, 200, 201, 234, 255}
	read := 0
	var goOn func(b []byte)
	goOn = func(b []byte) {
		rows, code, place := impl.Unpack20(b)
		unpackHolds(t, b)
		if code == impl.PackWell {
			read++
			if packed := mustPack(t, rows); !bytes.Equal(packed, b) {
				t.Fatal("packed as others:", b, rows, packed)
			}
		}
		// What is told at a place ahead of the end stands, whatever follows.
		if len(b) == 7 || code != impl.PackShort && code != impl.PackWell && place+1 < len(b) {
			return
		}
		for _, next := range few {
			goOn(append(slices.Clone(b), next))
		}
	}
	goOn(nil)
	if read < 200 {
		t.Error("too few were read:", read)
	}
}

// Promise 20: a record comes back from its bytes.
func TestARecordComesBackFromItsBytes(t *testing.T) {
	r := rand.New(rand.NewSource(203))
	packedAny := 0
	for range 20000 {
		rows := recordFrom(r)
		b, ok := impl.Pack20(rows)
		if !ok {
			continue
		}
		packedAny++
		got, code, place := impl.Unpack20(b)
		if code != impl.PackWell || place != 0 || !sameRows(got, rows) {
			t.Fatal(rows, got, code, place)
		}
		if row, column, same := impl.Same20(rows, got); !same || row != -1 || column != -1 {
			t.Fatal("not alike:", rows, got, row, column)
		}
		if again := mustPack(t, got); !bytes.Equal(again, b) {
			t.Fatal("packed as others:", rows, b, again)
		}
		if r.Intn(8) == 0 {
			cutAndGrown(t, b)
		}
	}
	if packedAny < 10000 {
		t.Error("too few were packed:", packedAny)
	}
}

// cutAndGrown holds that what was packed is read only as a whole.
func cutAndGrown(t *testing.T, b []byte) {
	t.Helper()
	for length := range b {
		if rows, code, place := impl.Unpack20(b[:length]); code != impl.PackShort || place != length || len(rows) != 0 {
			t.Fatal("cut:", b, length, rows, code, place)
		}
	}
	for _, more := range []byte{0, 100, 201, 255} {
		grown := append(slices.Clone(b), more)
		if rows, code, place := impl.Unpack20(grown); code != impl.PackMore || place != len(b) || len(rows) != 0 {
			t.Fatal("grown:", grown, rows, code, place)
		}
	}
}

// What follows: records are alike just when their bytes are.
func TestRecordsAreAlikeJustWhenTheirBytesAre(t *testing.T) {
	r := rand.New(rand.NewSource(204))
	alike, unlike := 0, 0
	for range 20000 {
		a := recordFrom(r)
		b := nearlyLike(r, a)
		first, ok := impl.Pack20(a)
		second, okToo := impl.Pack20(b)
		if !ok || !okToo {
			continue
		}
		same := sameHolds(t, a, b)
		if same != bytes.Equal(first, second) {
			t.Fatal(a, b, same, first, second)
		}
		if same {
			alike++
		} else {
			unlike++
		}
	}
	if alike < 2000 || unlike < 2000 {
		t.Error("too few of a kind were tried:", alike, unlike)
	}
}

// roomyRows has values behind each row and rows behind the last that would change each answer.
func roomyRows(rows [][]int) [][]int {
	wide := make([][]int, 0, len(rows)+3)
	for _, row := range rows {
		wide = append(wide, roomy(row))
	}
	return append(wide, []int{30001}, nil, []int{1, 2})[:len(rows)]
}

// allOfRows tells all that a record reaches, with what lies behind.
func allOfRows(rows [][]int) string {
	var all [][]int
	for _, row := range rows[:cap(rows)] {
		all = append(all, row[:cap(row)])
	}
	return fmt.Sprint(all)
}

func markInts(list []int, mark int) {
	for i := range list[:cap(list)] {
		list[:cap(list)][i] = mark
	}
}

// markEachRow writes a number of its own into each row of an answer, with its spare room, and
// tells whether each still has it then.
func markEachRow(rows [][]int) bool {
	for i, row := range rows {
		markInts(row, i+1)
	}
	for i, row := range rows {
		for _, v := range row[:cap(row)] {
			if v != i+1 {
				return false
			}
		}
	}
	return true
}

func TestTheRecorderSharesAndWritesNothing(t *testing.T) {
	r := rand.New(rand.NewSource(205))
	for range 4000 {
		plain := recordFrom(r)
		if r.Intn(5) == 0 {
			plain = spoilRecord(r, plain)
		}
		rows, other := roomyRows(plain), roomyRows(nearlyLike(r, plain))
		all := func() string { return allOfRows(rows) + allOfRows(other) }
		before := all()
		packHolds(t, rows)
		sameHolds(t, rows, other)
		at, limit := r.Intn(9), r.Intn(100)-50
		lookHolds(t, rows, at, limit)
		if all() != before {
			t.Fatal("an argument, or the room behind it, is written into:", rows, other)
		}
		packed, _ := impl.Pack20(rows)
		column, _ := impl.Column(rows, at)
		events, _ := impl.Events20(rows, at, limit)
		markBytes(packed, 99)
		markInts(column, 99)
		markInts(events, 99)
		if all() != before {
			t.Fatal("an argument shares memory with an answer:", rows)
		}
		packHolds(t, rows)
		lookHolds(t, rows, at, limit)
	}
}

func TestUnpackSharesAndWritesNothing(t *testing.T) {
	r := rand.New(rand.NewSource(206))
	for range 4000 {
		b := roomyBytes(bytesFrom(r))
		whole := slices.Clone(b[:cap(b)])
		unpackHolds(t, b)
		rows, _, _ := impl.Unpack20(b)
		second, _, _ := impl.Unpack20(b)
		if !markEachRow(rows) {
			t.Fatal("two rows of one answer share memory:", b)
		}
		for i := range rows[:cap(rows)] {
			rows[:cap(rows)][i] = nil
		}
		if want, _, _ := unpackByWords(b); !sameRows(second, want) {
			t.Fatal("two answers share memory:", b, second, want)
		}
		unpackHolds(t, b)
		if !bytes.Equal(b[:cap(b)], whole) {
			t.Fatal("the bytes, or the room behind them, are written into:", b)
		}
	}
}

// One list for all rows and for both records is read as if each had its own.
func TestOneListForAllRows(t *testing.T) {
	row := roomy([]int{500, -500})
	rows := [][]int{row, row, row}
	if packed := mustPack(t, rows); !bytes.Equal(packed, afterHead(2, 3, longByWords(500), longByWords(-500), []byte{100, 100, 100, 100})) {
		t.Error(packed)
	}
	if !sameHolds(t, rows, rows) || !slices.Equal(row[:cap(row)][:4], []int{500, -500, 77, 77}) {
		t.Error(rows, row[:cap(row)])
	}
	got, _, _ := impl.Unpack20(mustPack(t, rows))
	if len(got) != 3 || !markEachRow(got) {
		t.Error("rows that are alike share memory:", got)
	}
}

// Calls beside each other tell what each tells alone, also where one has no room.
func TestPackingOfManyAtOnce(t *testing.T) {
	fits := recordWith(7, 199, func(n int) bool { return n < 35 })
	full := recordWith(7, 200, func(n int) bool { return n < 33 })
	want, _ := packByWords(fits)
	var all sync.WaitGroup
	wrong := make([]bool, 16)
	for i := range wrong {
		all.Go(func() {
			for range 50 {
				packed, ok := impl.Pack20(fits)
				none, okToo := impl.Pack20(full)
				wrong[i] = wrong[i] || !ok || !bytes.Equal(packed, want) || okToo || len(none) != 0
			}
		})
	}
	all.Wait()
	if slices.Contains(wrong, true) || len(want) != 1500 {
		t.Error(wrong, len(want))
	}
}

func TestTheRecorderAtTheEdgesOfNumbers(t *testing.T) {
	edges := append(valueBounds.beyond(), -30000, -100, 0, 1, 100, 30000)
	for _, x := range edges {
		for _, y := range edges {
			rows := [][]int{{x, 0}, {y, x}}
			packHolds(t, rows)
			packHolds(t, oneColumn(x, y))
			sameHolds(t, rows, [][]int{{x, 0}, {y, y}})
			sameHolds(t, oneColumn(x, y), rows)
			lookHolds(t, rows, 0, x)
			lookHolds(t, rows, 1, y)
			lookHolds(t, [][]int{{1, 2}, {3, 0}}, x, y)
			lookHolds(t, [][]int{{-30000, 30000}, {30000, -30000}}, 1, x)
		}
	}
}

// typesOfFile has the names of the types that a file declares.
func typesOfFile(file *ast.File) []string {
	var names []string
	ast.Inspect(file, func(n ast.Node) bool {
		if spec, ok := n.(*ast.TypeSpec); ok {
			names = append(names, spec.Name.Name)
		}
		return true
	})
	return names
}

// recoversDeferred tells whether a function defers a literal that recovers.
func recoversDeferred(f *ast.FuncDecl) bool {
	found := false
	ast.Inspect(f.Body, func(n ast.Node) bool {
		later, ok := n.(*ast.DeferStmt)
		if !ok {
			return true
		}
		literal, ok := later.Call.Fun.(*ast.FuncLit)
		if !ok {
			return true
		}
		ast.Inspect(literal.Body, func(n ast.Node) bool {
			call, ok := n.(*ast.CallExpr)
			found = found || ok && isNamed(call.Fun, "recover")
			return true
		})
		return true
	})
	return found
}

// The document's 'Ways': packing panics with a value of its own where there is no room, and is
// recovered at the face.
func TestTheRecorderIsBuiltItsWay(t *testing.T) {
	file, err := parser.ParseFile(token.NewFileSet(), "../impl/l20_record.go", nil, 0)
	if err != nil {
		t.Fatal(err)
	}
	types := typesOfFile(file)
	ownValue, atFace := false, false
	for _, d := range file.Decls {
		switch x := d.(type) {
		case *ast.GenDecl:
			if x.Tok == token.VAR {
				t.Error("a variable is kept from call to call")
			}
		case *ast.FuncDecl:
			atFace = atFace || x.Name.Name == "Pack20" && x.Recv == nil && recoversDeferred(x)
		}
	}
	ast.Inspect(file, func(n ast.Node) bool {
		call, ok := n.(*ast.CallExpr)
		if !ok || !isNamed(call.Fun, "panic") {
			return true
		}
		value, ok := call.Args[0].(*ast.CompositeLit)
		ownValue = ok && slices.ContainsFunc(types, func(name string) bool { return isNamed(value.Type, name) })
		if !ownValue {
			t.Error("packing panics with a value that is not its own")
		}
		return true
	})
	if !ownValue || !atFace {
		t.Error("panics with a value of its own:", ownValue, "recovered at the face:", atFace)
	}
}
