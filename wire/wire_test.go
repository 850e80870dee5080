package wire_test

import (
	"bytes"
	"encoding/binary"
	"hash/fnv"
	"math"
	"math/rand/v2"
	"slices"
	"strings"
	"testing"

	"lottery/api"
	"lottery/wire"
)

// join concatenates byte strings in new memory.
func join(parts ...[]byte) []byte {
	return slices.Concat(parts...)
}

// filled is a byte string of n equal bytes.
func filled(n int, c byte) []byte {
	return bytes.Repeat([]byte{c}, n)
}

// uintBytes is the varint as Go's library writes it.
func uintBytes(x uint64) []byte {
	return binary.AppendUvarint(nil, x)
}

// intBytes is the varint of the zigzag code as Go's library writes it.
func intBytes(x int) []byte {
	return binary.AppendVarint(nil, int64(x))
}

// textBytes is the encoding of a string.
func textBytes(s string) []byte {
	return join(uintBytes(uint64(len(s))), []byte(s))
}

// intsBytes is the encoding of a list.
func intsBytes(l []int) []byte {
	b := uintBytes(uint64(len(l)))
	for _, x := range l {
		b = append(b, intBytes(x)...)
	}
	return b
}

// frameBytes is the frame of b, with the digest as Go's library computes it.
func frameBytes(b []byte) []byte {
	h := fnv.New64a()
	h.Write(b)
	return h.Sum(textBytes(string(b)))
}

// varintOf finds what reading the varint at the beginning of b comes to: the integer and its number of bytes, or the error. An integer is found where writing it gives the bytes.
func varintOf(b []byte) (uint64, int, api.Errno) {
	last := slices.IndexFunc(b, func(c byte) bool { return c < 128 })
	switch {
	case last < 0 && len(b) < 10:
		return 0, 0, api.ErrTruncated
	case last < 0 || last > 9 || last == 9 && b[9] > 1:
		return 0, 0, api.ErrOverflow
	}
	x, width := binary.Uvarint(b)
	if !bytes.Equal(uintBytes(x), b[:width]) {
		return 0, 0, api.ErrCorrupt
	}
	return x, width, api.OK
}

// uints are different integers: those at the edges, the least and the greatest of each length, and any others, the same in each run.
func uints() []uint64 {
	l := []uint64{0, 1, 2, 3, 63, 64, 65, 127, 128, 129, 255, 256, 300, 1<<63 - 1, 1 << 63, 1<<63 + 1, 1<<64 - 2, 1<<64 - 1}
	for bits := range 64 {
		one := uint64(1) << bits
		l = append(l, one-1, one, one+1, ^one, -one)
	}
	r := rand.New(rand.NewPCG(8, 1))
	for range 2000 {
		l = append(l, r.Uint64(), r.Uint64()>>r.IntN(64))
	}
	slices.Sort(l)
	return slices.Compact(l)
}

// ints are those that have the integers of uints as their bits.
func ints() []int {
	l := []int{0, 1, -1, 63, 64, -64, -65, math.MinInt, math.MaxInt}
	for _, x := range uints() {
		l = append(l, int(x), -int(x))
	}
	return l
}

// texts are the empty one, each single byte, those whose length takes another byte, those that are no UTF-8, and any others, the same in each run.
func texts() []string {
	l := []string{"", "ab", "\x00", "\x00\x00", "\xff", "\xff\x00\xff", "a\x00", "\x80\x80", "\xc3\x28", "ü", "\U0001f3b2", "\n"}
	for c := range 256 {
		l = append(l, string([]byte{byte(c)}))
	}
	for _, n := range []int{63, 64, 126, 127, 128, 129, 300, 16383, 16384, api.MaxText, api.MaxText + 1} {
		l = append(l, strings.Repeat("x", n), strings.Repeat("\x00", n), strings.Repeat("\xff", n))
	}
	r := rand.New(rand.NewPCG(8, 2))
	for range 300 {
		l = append(l, string(someBytes(r, r.IntN(200))))
	}
	return l
}

// someBytes are n bytes, of which many are at the edges of groups.
func someBytes(r *rand.Rand, n int) []byte {
	edges := []byte{0, 1, 2, 3, 127, 128, 129, 255}
	b := make([]byte, n)
	for i := range b {
		b[i] = byte(r.Uint32())
		if r.IntN(2) == 0 {
			b[i] = edges[r.IntN(len(edges))]
		}
	}
	return b
}

// lists are the nil one, the empty one, those of single integers, those whose length takes another byte, and any others, the same in each run.
func lists() [][]int {
	all := ints()
	l := [][]int{nil, {}, {1, -2}, {0, 0, 0}, {math.MinInt, math.MaxInt}, all}
	for _, x := range all[:200] {
		l = append(l, []int{x})
	}
	for _, n := range []int{63, 64, 127, 128, 129, 300, 16383, 16384} {
		l = append(l, make([]int, n))
	}
	r := rand.New(rand.NewPCG(8, 3))
	for range 200 {
		some := make([]int, r.IntN(30))
		for i := range some {
			some[i] = all[r.IntN(len(all))]
		}
		l = append(l, some)
	}
	return l
}

// shortStrings are all byte strings of up to two bytes, and all of up to four bytes at the edges of groups.
func shortStrings() [][]byte {
	l := [][]byte{nil, {}}
	for c := range 256 {
		l = append(l, []byte{byte(c)})
		for d := range 256 {
			l = append(l, []byte{byte(c), byte(d)})
		}
	}
	edges := []byte{0, 1, 2, 3, 127, 128, 129, 255}
	for i := range 8 * 8 * 8 * 8 {
		b := []byte{edges[i%8], edges[i/8%8], edges[i/64%8], edges[i/512]}
		l = append(l, b, b[:3])
	}
	return l
}

// varints are byte strings that are varints, nearly varints and none: of each number of bytes, with each last byte, with each tenth byte, and with further bytes behind.
func varints() [][]byte {
	var l [][]byte
	for _, x := range uints() {
		l = append(l, uintBytes(x))
	}
	for _, c := range []byte{128, 129, 170, 254, 255} {
		for n := range 13 {
			l = append(l, filled(n, c))
			for last := range 256 {
				b := append(filled(n, c), byte(last))
				l = append(l, b, append(b[:n+1:n+1], 0), append(b[:n+1:n+1], 1), append(b[:n+1:n+1], 255, 0))
			}
		}
	}
	return l
}

// P8.1: the examples and the edges, as literals.
func TestWriterExamples(t *testing.T) {
	nines := filled(9, 255)
	for _, c := range []struct {
		name  string
		write func(w *wire.Writer)
		want  []byte
	}{
		{"nothing", func(w *wire.Writer) {}, nil},
		{"Uint(0)", func(w *wire.Writer) { w.Uint(0) }, []byte{0}},
		{"Uint(1)", func(w *wire.Writer) { w.Uint(1) }, []byte{1}},
		{"Uint(127)", func(w *wire.Writer) { w.Uint(127) }, []byte{127}},
		{"Uint(128)", func(w *wire.Writer) { w.Uint(128) }, []byte{128, 1}},
		{"Uint(300)", func(w *wire.Writer) { w.Uint(300) }, []byte{172, 2}},
		{"Uint(16384)", func(w *wire.Writer) { w.Uint(16384) }, []byte{128, 128, 1}},
		{"Uint(2^63)", func(w *wire.Writer) { w.Uint(1 << 63) }, append(filled(9, 128), 1)},
		{"Uint(2^63 - 1)", func(w *wire.Writer) { w.Uint(1<<63 - 1) }, append(filled(8, 255), 127)},
		{"Uint(2^64 - 1)", func(w *wire.Writer) { w.Uint(1<<64 - 1) }, append(nines[:9:9], 1)},
		{"Int(0)", func(w *wire.Writer) { w.Int(0) }, []byte{0}},
		{"Int(-1)", func(w *wire.Writer) { w.Int(-1) }, []byte{1}},
		{"Int(1)", func(w *wire.Writer) { w.Int(1) }, []byte{2}},
		{"Int(-2)", func(w *wire.Writer) { w.Int(-2) }, []byte{3}},
		{"Int(63)", func(w *wire.Writer) { w.Int(63) }, []byte{126}},
		{"Int(-64)", func(w *wire.Writer) { w.Int(-64) }, []byte{127}},
		{"Int(64)", func(w *wire.Writer) { w.Int(64) }, []byte{128, 1}},
		{"Int(-65)", func(w *wire.Writer) { w.Int(-65) }, []byte{129, 1}},
		{"Int of the greatest", func(w *wire.Writer) { w.Int(math.MaxInt) }, append([]byte{254}, append(filled(8, 255), 1)...)},
		{"Int of the smallest", func(w *wire.Writer) { w.Int(math.MinInt) }, append(nines[:9:9], 1)},
		{"Text of nothing", func(w *wire.Writer) { w.Text("") }, []byte{0}},
		{"Text(ab)", func(w *wire.Writer) { w.Text("ab") }, []byte{2, 97, 98}},
		{"Text of bytes 0 and 255", func(w *wire.Writer) { w.Text("\x00\xff") }, []byte{2, 0, 255}},
		{"Text of 128 bytes", func(w *wire.Writer) { w.Text(strings.Repeat("a", 128)) }, join([]byte{128, 1}, filled(128, 97))},
		{"Ints(nil)", func(w *wire.Writer) { w.Ints(nil) }, []byte{0}},
		{"Ints of none", func(w *wire.Writer) { w.Ints([]int{}) }, []byte{0}},
		{"Ints(1, -2)", func(w *wire.Writer) { w.Ints([]int{1, -2}) }, []byte{2, 2, 3}},
	} {
		w := wire.NewWriter()
		c.write(w)
		if got := w.Bytes(); !bytes.Equal(got, c.want) {
			t.Errorf("%s writes %v, want %v", c.name, got, c.want)
		}
	}
}

// P8.1, R1: each kind of value by itself.
func TestWriterOfOneValue(t *testing.T) {
	check := func(value any, want []byte, write func(w *wire.Writer)) {
		w := wire.NewWriter()
		write(w)
		if got := w.Bytes(); !bytes.Equal(got, want) {
			t.Errorf("%.60v is written as %.60v, want %.60v", value, got, want)
		}
	}
	for _, x := range uints() {
		check(x, uintBytes(x), func(w *wire.Writer) { w.Uint(x) })
	}
	for _, x := range ints() {
		check(x, intBytes(x), func(w *wire.Writer) { w.Int(x) })
	}
	for _, s := range texts() {
		check(s, textBytes(s), func(w *wire.Writer) { w.Text(s) })
	}
	for _, l := range lists() {
		check(l, intsBytes(l), func(w *wire.Writer) { w.Ints(l) })
	}
}

// The kinds of values.
const (
	kindInt = iota
	kindUint
	kindText
	kindInts
	kinds
)

// A value is what one call writes or reads.
type value struct {
	kind int
	x    int
	u    uint64
	s    string
	l    []int
}

// someValues are n values, the same for the same source.
func someValues(r *rand.Rand, n int) []value {
	us, xs, ss, ls := uints(), ints(), texts(), lists()
	l := make([]value, n)
	for i := range l {
		switch l[i].kind = r.IntN(kinds); l[i].kind {
		case kindInt:
			l[i].x = xs[r.IntN(len(xs))]
		case kindUint:
			l[i].u = us[r.IntN(len(us))]
		case kindText:
			l[i].s = ss[r.IntN(len(ss))]
		default:
			l[i].l = ls[r.IntN(len(ls))]
		}
	}
	return l
}

// bytes are those of the value's encoding.
func (v value) bytes() []byte {
	switch v.kind {
	case kindInt:
		return intBytes(v.x)
	case kindUint:
		return uintBytes(v.u)
	case kindText:
		return textBytes(v.s)
	}
	return intsBytes(v.l)
}

// write writes the value.
func (v value) write(w *wire.Writer) {
	switch v.kind {
	case kindInt:
		w.Int(v.x)
	case kindUint:
		w.Uint(v.u)
	case kindText:
		w.Text(v.s)
	default:
		w.Ints(v.l)
	}
}

// size is the least limit that is sufficient for the value.
func (v value) size() int {
	return len(v.s) + len(v.l)
}

// readValue reads a value of a kind.
func readValue(r *wire.Reader, kind, most int) value {
	switch kind {
	case kindInt:
		return value{kind: kind, x: r.Int()}
	case kindUint:
		return value{kind: kind, u: r.Uint()}
	case kindText:
		return value{kind: kind, s: r.Text(most)}
	}
	return value{kind: kind, l: r.Ints(most)}
}

// same reports whether two values are equal; an empty list is a nil one.
func same(v, other value) bool {
	return v.kind == other.kind && v.x == other.x && v.u == other.u && v.s == other.s && slices.Equal(v.l, other.l)
}

// P8.1, R3: Bytes returns all values in order, after each of them and in new memory, and the writer can be used further.
func TestWriterOfManyValues(t *testing.T) {
	r := rand.New(rand.NewPCG(8, 4))
	for range 20 {
		w, other := wire.NewWriter(), wire.NewWriter()
		var want, earlier []byte
		for _, v := range someValues(r, 20) {
			v.write(w)
			if !bytes.Equal(earlier, want) {
				t.Fatalf("writing %.60v changed the slice that Bytes returned before", v)
			}
			want = append(want, v.bytes()...)
			got := w.Bytes()
			if !bytes.Equal(got, want) {
				t.Fatalf("after %.60v, Bytes = %.60v, want %.60v", v, got, want)
			}
			spoil(got)
			if earlier = w.Bytes(); !bytes.Equal(earlier, want) {
				t.Fatalf("Bytes = %.60v after its first result was changed, want %.60v", earlier, want)
			}
		}
		if b := other.Bytes(); len(b) != 0 {
			t.Fatalf("another writer has written %.60v", b)
		}
	}
}

// spoil changes each byte of b, and of its spare capacity.
func spoil(b []byte) {
	b = b[:cap(b)]
	for i := range b {
		b[i] ^= 0x55
	}
}

// R3: a list is neither changed nor kept.
func TestIntsKeepsNothing(t *testing.T) {
	room := []int{1, -2, 3, 99, 98}
	w := wire.NewWriter()
	w.Ints(room[:3])
	if !slices.Equal(room, []int{1, -2, 3, 99, 98}) {
		t.Errorf("Ints changed its list to %v", room)
	}
	room[0] = 5
	if got := w.Bytes(); !bytes.Equal(got, []byte{3, 2, 3, 6}) {
		t.Errorf("Bytes = %v after the list was changed", got)
	}
}

// checkVarint compares what Uint and Int read from the beginning of b with the definition.
func checkVarint(t *testing.T, b []byte) {
	t.Helper()
	x, width, e := varintOf(b)
	left := len(b) - width
	if e != api.OK {
		left = 0
	}
	r := wire.NewReader(b)
	if got := r.Uint(); got != x || r.Err() != e || r.Left() != left {
		t.Errorf("Uint of %v = %d, %v, left %d, want %d, %v, left %d", b, got, r.Err(), r.Left(), x, e, left)
	}
	signed, _ := binary.Varint(uintBytes(x))
	r = wire.NewReader(b)
	if got := r.Int(); got != int(signed) || r.Err() != e || r.Left() != left {
		t.Errorf("Int of %v = %d, %v, left %d, want %d, %v, left %d", b, got, r.Err(), r.Left(), signed, e, left)
	}
}

// P8.2: the examples and the edges, as literals.
func TestReadingIntegersExamples(t *testing.T) {
	for _, c := range []struct {
		b    []byte
		u    uint64
		x    int
		e    api.Errno
		left int
	}{
		{nil, 0, 0, api.ErrTruncated, 0},
		{[]byte{}, 0, 0, api.ErrTruncated, 0},
		{[]byte{0}, 0, 0, api.OK, 0},
		{[]byte{0, 0}, 0, 0, api.OK, 1},
		{[]byte{1}, 1, -1, api.OK, 0},
		{[]byte{2, 255}, 2, 1, api.OK, 1},
		{[]byte{3}, 3, -2, api.OK, 0},
		{[]byte{126}, 126, 63, api.OK, 0},
		{[]byte{127}, 127, -64, api.OK, 0},
		{[]byte{128, 1}, 128, 64, api.OK, 0},
		{[]byte{129, 1}, 129, -65, api.OK, 0},
		{[]byte{172, 2, 172, 2}, 300, 150, api.OK, 2},
		{[]byte{128}, 0, 0, api.ErrTruncated, 0},
		{[]byte{128, 0}, 0, 0, api.ErrCorrupt, 0},
		{[]byte{255, 0}, 0, 0, api.ErrCorrupt, 0},
		{[]byte{128, 128, 0}, 0, 0, api.ErrCorrupt, 0},
		{filled(9, 255), 0, 0, api.ErrTruncated, 0},
		{append(filled(9, 255), 0), 0, 0, api.ErrCorrupt, 0},
		{append(filled(9, 128), 0), 0, 0, api.ErrCorrupt, 0},
		{append(filled(9, 255), 1), 1<<64 - 1, math.MinInt, api.OK, 0},
		{append([]byte{254}, append(filled(8, 255), 1)...), 1<<64 - 2, math.MaxInt, api.OK, 0},
		{append(filled(9, 128), 1), 1 << 63, 1 << 62, api.OK, 0},
		{append(filled(8, 255), 127), 1<<63 - 1, -1 << 62, api.OK, 0},
		{append(filled(9, 255), 2), 0, 0, api.ErrOverflow, 0},
		{append(filled(9, 128), 2), 0, 0, api.ErrOverflow, 0},
		{append(filled(9, 255), 127), 0, 0, api.ErrOverflow, 0},
		{append(filled(9, 255), 128), 0, 0, api.ErrOverflow, 0},
		{append(filled(9, 128), 129), 0, 0, api.ErrOverflow, 0},
		{append(filled(9, 128), 128, 0), 0, 0, api.ErrOverflow, 0},
		{filled(10, 255), 0, 0, api.ErrOverflow, 0},
		{append(filled(10, 255), 0), 0, 0, api.ErrOverflow, 0},
		{append(filled(10, 255), 1), 0, 0, api.ErrOverflow, 0},
	} {
		r := wire.NewReader(c.b)
		if got := r.Uint(); got != c.u || r.Err() != c.e || r.Left() != c.left {
			t.Errorf("Uint of %v = %d, %v, left %d, want %d, %v, left %d", c.b, got, r.Err(), r.Left(), c.u, c.e, c.left)
		}
		r = wire.NewReader(c.b)
		if got := r.Int(); got != c.x || r.Err() != c.e || r.Left() != c.left {
			t.Errorf("Int of %v = %d, %v, left %d, want %d, %v, left %d", c.b, got, r.Err(), r.Left(), c.x, c.e, c.left)
		}
	}
}

// P8.2, P8.4, R1: integers from any bytes.
func TestReadingIntegers(t *testing.T) {
	for _, b := range shortStrings() {
		checkVarint(t, b)
	}
	for _, b := range varints() {
		checkVarint(t, b)
	}
	r := rand.New(rand.NewPCG(8, 5))
	for range 20000 {
		checkVarint(t, someBytes(r, r.IntN(14)))
	}
}

// P8.2: a varint is truncated wherever it is cut off.
func TestReadingCutVarints(t *testing.T) {
	for _, x := range uints() {
		b := uintBytes(x)
		for cut := range b {
			r := wire.NewReader(b[:cut])
			if got := r.Uint(); got != 0 || r.Err() != api.ErrTruncated {
				t.Errorf("Uint of the first %d bytes of %v = %d, %v", cut, b, got, r.Err())
			}
		}
	}
}

// P8.2, R3: a reader has a copy of its bytes, and reads nothing behind them.
func TestReaderHasACopy(t *testing.T) {
	room := []byte{172, 2, 2, 97, 98, 2, 2, 3, 128, 1}
	before := slices.Clone(room)
	r := wire.NewReader(room[:9])
	spoil(room)
	u, s, l := r.Uint(), r.Text(2), r.Ints(2)
	if u != 300 || s != "ab" || !slices.Equal(l, []int{1, -2}) || r.Left() != 1 || r.Err() != api.OK {
		t.Errorf("after the bytes were changed: %d, %q, %v, left %d, %v", u, s, l, r.Left(), r.Err())
	}
	if got := r.Uint(); got != 0 || r.Err() != api.ErrTruncated {
		t.Errorf("behind the bytes: %d, %v", got, r.Err())
	}
	spoil(room)
	if !bytes.Equal(room, before) {
		t.Errorf("the reader changed its bytes to %v", room)
	}
}

// R3: lists are new memory.
func TestReadListsAreNewMemory(t *testing.T) {
	b := []byte{2, 2, 3, 2, 2, 3}
	r := wire.NewReader(b)
	first := r.Ints(2)
	first[0], first[1] = 7, 8
	if second := r.Ints(2); !slices.Equal(second, []int{1, -2}) || !slices.Equal(first, []int{7, 8}) {
		t.Errorf("two lists: %v and %v", first, second)
	}
}

// limits are those around a length, with the errors that they give where the content is there.
func limits(n int) map[int]api.Errno {
	l := map[int]api.Errno{n: api.OK, n + 1: api.OK, math.MaxInt: api.OK, n - 1: api.ErrLimit}
	for _, most := range []int{0, -1, -n, math.MinInt} {
		l[most] = api.ErrLimit
		if n == 0 {
			l[most] = api.OK
		}
	}
	return l
}

// P8.3: the examples and the edges, as literals.
func TestReadingStringsAndListsExamples(t *testing.T) {
	for _, c := range []struct {
		b    []byte
		most int
		s    string
		e    api.Errno
		l    []int
		f    api.Errno
	}{
		{[]byte{2, 97}, 1, "", api.ErrLimit, nil, api.ErrLimit},
		{[]byte{2, 97}, 2, "", api.ErrTruncated, nil, api.ErrTruncated},
		{[]byte{2, 97, 98}, 2, "ab", api.OK, []int{-49, 49}, api.OK},
		{[]byte{2, 2, 3, 9}, 2, "\x02\x03", api.OK, []int{1, -2}, api.OK},
		{[]byte{2, 0, 255}, 2, "\x00\xff", api.OK, nil, api.ErrTruncated},
		{[]byte{2, 128, 0}, 2, "\x80\x00", api.OK, nil, api.ErrCorrupt},
		{[]byte{2, 128, 0}, 1, "", api.ErrLimit, nil, api.ErrLimit},
		{[]byte{2, 1, 128, 0}, 2, "\x01\x80", api.OK, nil, api.ErrCorrupt},
		{[]byte{2, 128, 0, 128}, 2, "\x80\x00", api.OK, nil, api.ErrCorrupt},
		{join([]byte{1}, filled(10, 255)), 1, "\xff", api.OK, nil, api.ErrOverflow},
		{join([]byte{2}, filled(9, 255), []byte{1, 5}), 2, "\xff\xff", api.OK, []int{math.MinInt, -3}, api.OK},
		{[]byte{0}, 0, "", api.OK, nil, api.OK},
		{[]byte{0}, -5, "", api.OK, nil, api.OK},
		{[]byte{1, 0}, -5, "", api.ErrLimit, nil, api.ErrLimit},
		{[]byte{1, 0}, 0, "", api.ErrLimit, nil, api.ErrLimit},
		{[]byte{1, 0}, 1, "\x00", api.OK, []int{0}, api.OK},
		{[]byte{1}, 1, "", api.ErrTruncated, nil, api.ErrTruncated},
		{nil, 1, "", api.ErrTruncated, nil, api.ErrTruncated},
		{nil, -1, "", api.ErrTruncated, nil, api.ErrTruncated},
		{[]byte{130}, 1, "", api.ErrTruncated, nil, api.ErrTruncated},
		{[]byte{130, 0, 97}, 5, "", api.ErrCorrupt, nil, api.ErrCorrupt},
		{[]byte{130, 0, 97}, -5, "", api.ErrCorrupt, nil, api.ErrCorrupt},
		{append(filled(9, 255), 2), 0, "", api.ErrOverflow, nil, api.ErrOverflow},
	} {
		r := wire.NewReader(c.b)
		if got := r.Text(c.most); got != c.s || r.Err() != c.e {
			t.Errorf("Text(%d) of %v = %q, %v, want %q, %v", c.most, c.b, got, r.Err(), c.s, c.e)
		}
		r = wire.NewReader(c.b)
		if got := r.Ints(c.most); !slices.Equal(got, c.l) || r.Err() != c.f {
			t.Errorf("Ints(%d) of %v = %v, %v, want %v, %v", c.most, c.b, got, r.Err(), c.l, c.f)
		}
	}
}

// P8.3, P8.4, R1: strings of any length with any limits, with and without bytes behind them.
func TestReadingStrings(t *testing.T) {
	for _, s := range texts() {
		for most, e := range limits(len(s)) {
			for _, behind := range []string{"", "\x80\x00"} {
				want, left := s, len(behind)
				if e != api.OK {
					want, left = "", 0
				}
				r := wire.NewReader(append(textBytes(s), behind...))
				if got := r.Text(most); got != want || r.Err() != e || r.Left() != left {
					t.Errorf("Text(%d) of the string %.40q = %.40q, %v, left %d, want %v, left %d", most, s, got, r.Err(), r.Left(), e, left)
				}
			}
		}
	}
}

// P8.3, P8.4, R1: lists of any length with any limits, with and without bytes behind them.
func TestReadingLists(t *testing.T) {
	for _, l := range lists() {
		for most, e := range limits(len(l)) {
			for _, behind := range []string{"", "\x80\x00"} {
				want, left := l, len(behind)
				if e != api.OK {
					want, left = nil, 0
				}
				r := wire.NewReader(append(intsBytes(l), behind...))
				if got := r.Ints(most); !slices.Equal(got, want) || r.Err() != e || r.Left() != left {
					t.Errorf("Ints(%d) of the list %.60v = %.60v, %v, left %d, want %v, left %d", most, l, got, r.Err(), r.Left(), e, left)
				}
			}
		}
	}
}

// P8.3, R1: a length that is greater than what is left, up to the greatest one, ends at once; the limit comes before what is left.
func TestReadingTooGreatLengths(t *testing.T) {
	for _, n := range []uint64{3, 4, 127, 128, 1 << 20, 1 << 31, 1<<32 + 2, 1 << 40, 1<<62 + 2, 1<<63 - 1, 1 << 63, 1<<63 + 2, 1<<64 - 2, 1<<64 - 1} {
		b := append(uintBytes(n), 1, 1)
		for _, most := range []int{math.MinInt, -1, 0, 1, 2, 3, 1 << 20, 1 << 40, math.MaxInt - 1, math.MaxInt} {
			e := api.ErrTruncated
			if most < 0 || n > uint64(most) {
				e = api.ErrLimit
			}
			r := wire.NewReader(b)
			if got := r.Text(most); got != "" || r.Err() != e {
				t.Errorf("Text(%d) with the length %d = %q, %v, want %v", most, n, got, r.Err(), e)
			}
			r = wire.NewReader(b)
			if got := r.Ints(most); len(got) != 0 || r.Err() != e {
				t.Errorf("Ints(%d) with the length %d = %v, %v, want %v", most, n, got, r.Err(), e)
			}
		}
	}
}

// P8.3: the length of a string is the number of its bytes: it is truncated wherever it is cut off.
func TestReadingCutStringsAndLists(t *testing.T) {
	s := strings.Repeat("\x00\xff\x80", 50)
	b := textBytes(s)
	for cut := range b {
		r := wire.NewReader(b[:cut])
		if got := r.Text(len(s)); got != "" || r.Err() != api.ErrTruncated {
			t.Errorf("Text of the first %d bytes = %q, %v", cut, got, r.Err())
		}
	}
	l := ints()[:150]
	b = intsBytes(l)
	for cut := range b {
		r := wire.NewReader(b[:cut])
		if got := r.Ints(len(l)); len(got) != 0 || r.Err() != api.ErrTruncated {
			t.Errorf("Ints of the first %d bytes = %v, %v", cut, got, r.Err())
		}
	}
}

// P8.2, P8.3: the length is read as Uint reads it, whatever the limit is.
func TestReadingLengths(t *testing.T) {
	for _, b := range varints() {
		_, _, e := varintOf(b)
		if e == api.OK {
			continue
		}
		for _, most := range []int{math.MinInt, 0, 1, math.MaxInt} {
			r := wire.NewReader(b)
			if got := r.Text(most); got != "" || r.Err() != e {
				t.Errorf("Text(%d) of %v = %q, %v, want %v", most, b, got, r.Err(), e)
			}
			r = wire.NewReader(b)
			if got := r.Ints(most); len(got) != 0 || r.Err() != e {
				t.Errorf("Ints(%d) of %v = %v, %v, want %v", most, b, got, r.Err(), e)
			}
		}
	}
}

// P8.3: the first error of the elements, at each place among them.
func TestReadingListsWithAWrongElement(t *testing.T) {
	wrong := map[api.Errno][]byte{
		api.ErrCorrupt:  {255, 0},
		api.ErrOverflow: append(filled(9, 255), 2),
	}
	for e, element := range wrong {
		for place := range 6 {
			b := []byte{6}
			for i := range 6 {
				if i == place {
					b = append(b, element...)
				} else {
					b = append(b, 172, 2)
				}
			}
			for _, behind := range [][]byte{nil, {128, 0}, filled(10, 255), {128}} {
				r := wire.NewReader(append(b[:len(b):len(b)], behind...))
				if got := r.Ints(6); len(got) != 0 || r.Err() != e || r.Left() != 0 {
					t.Errorf("Ints with element %d wrong = %v, %v, left %d, want %v", place, got, r.Err(), r.Left(), e)
				}
			}
		}
	}
}

// failures are byte strings that begin with what makes a call of a kind with a limit of 2 fail, and end with valid values.
func failures(kind int) map[api.Errno][][]byte {
	corrupt, overflow := []byte{128, 0}, append(filled(9, 255), 2)
	valid := []byte{0, 1, 2, 2, 1, 97, 0, 0, 0, 0, 0, 0, 0, 0}
	l := map[api.Errno][][]byte{
		api.ErrTruncated: {nil, {128}, filled(9, 255)},
		api.ErrCorrupt:   {append(corrupt, valid...)},
		api.ErrOverflow:  {append(overflow, valid...), append(filled(10, 128), valid...)},
	}
	switch kind {
	case kindText:
		l[api.ErrTruncated] = append(l[api.ErrTruncated], []byte{1}, []byte{2, 97})
		l[api.ErrLimit] = [][]byte{append([]byte{3}, valid...)}
	case kindInts:
		l[api.ErrTruncated] = append(l[api.ErrTruncated], []byte{1}, []byte{2, 97}, []byte{2, 0, 128})
		l[api.ErrLimit] = [][]byte{append([]byte{3}, valid...)}
		l[api.ErrCorrupt] = append(l[api.ErrCorrupt], join([]byte{2, 0}, corrupt, valid))
		l[api.ErrOverflow] = append(l[api.ErrOverflow], join([]byte{2, 0}, overflow, valid))
	}
	return l
}

// P8.4: after each kind of failed call, each kind of call returns zero values, and the error stays.
func TestReaderAfterAFailedCall(t *testing.T) {
	valid := []byte{3, 1, 97, 1, 2, 172, 2}
	for kind := range kinds {
		for e, l := range failures(kind) {
			for _, wrong := range l {
				for next := range kinds {
					r := wire.NewReader(append(valid, wrong...))
					before := []value{readValue(r, kindInt, 0), readValue(r, kindText, 1), readValue(r, kindInts, 1), readValue(r, kindUint, 0)}
					want := []value{{kind: kindInt, x: -2}, {kind: kindText, s: "a"}, {kind: kindInts, l: []int{1}}, {kind: kindUint, u: 300}}
					if !slices.EqualFunc(before, want, same) || r.Err() != api.OK || r.Left() != len(wrong) {
						t.Fatalf("before the failed call: %v, %v, left %d", before, r.Err(), r.Left())
					}
					if got := readValue(r, kind, 2); !same(got, value{kind: kind}) || r.Err() != e || r.Left() != 0 {
						t.Errorf("kind %d of %v: %v, %v, left %d, want %v", kind, wrong, got, r.Err(), r.Left(), e)
					}
					for _, most := range []int{100, 0, -1} {
						if got := readValue(r, next, most); !same(got, value{kind: next}) || r.Err() != e || r.Left() != 0 {
							t.Errorf("kind %d after kind %d of %v: %v, %v, left %d, want %v", next, kind, wrong, got, r.Err(), r.Left(), e)
						}
					}
				}
			}
		}
	}
}

// P8.4: Left counts down to 0, and Err is OK as long as no call has failed; asking for them changes nothing.
func TestLeftAndErr(t *testing.T) {
	r := rand.New(rand.NewPCG(8, 6))
	for range 20 {
		values := someValues(r, 20)
		var b []byte
		for _, v := range values {
			b = append(b, v.bytes()...)
		}
		reader := wire.NewReader(b)
		left := len(b)
		for _, v := range values {
			for range 2 {
				if reader.Left() != left || reader.Err() != api.OK {
					t.Fatalf("Left = %d, Err = %v, want %d, OK", reader.Left(), reader.Err(), left)
				}
			}
			readValue(reader, v.kind, v.size())
			left -= len(v.bytes())
		}
		if left != 0 || reader.Left() != 0 || reader.Err() != api.OK {
			t.Fatalf("at the end: Left = %d, Err = %v", reader.Left(), reader.Err())
		}
		if x := reader.Uint(); x != 0 || reader.Err() != api.ErrTruncated || reader.Left() != 0 {
			t.Fatalf("behind the end: %d, %v", x, reader.Err())
		}
	}
}

// contents are byte strings to be framed.
func contents() [][]byte {
	l := [][]byte{nil, {}, {0}, {255}, {0, 255, 128}, filled(8, 0), filled(127, 1), filled(128, 2), filled(16384, 3)}
	for _, s := range texts() {
		if len(s) < 200 {
			l = append(l, []byte(s))
		}
	}
	return append(l, frameBytes([]byte("a frame in a frame")))
}

// P8.5: the examples, as literals.
func TestFrameExamples(t *testing.T) {
	empty := []byte{0, 0xcb, 0xf2, 0x9c, 0xe4, 0x84, 0x22, 0x23, 0x25}
	a := []byte{1, 'a', 0xaf, 0x63, 0xdc, 0x4c, 0x86, 0x01, 0xec, 0x8c}
	for _, c := range []struct{ b, frame []byte }{{nil, empty}, {[]byte{}, empty}, {[]byte("a"), a}} {
		if got := wire.Frame(c.b); !bytes.Equal(got, c.frame) {
			t.Errorf("Frame(%v) = %x, want %x", c.b, got, c.frame)
		}
	}
	both := join(empty, a)
	for _, c := range []struct {
		at   int
		b    []byte
		next int
		e    api.Errno
	}{
		{math.MinInt, nil, 0, api.ErrRange},
		{-1, nil, 0, api.ErrRange},
		{0, nil, 9, api.OK},
		{9, []byte("a"), 19, api.OK},
		{19, nil, 0, api.ErrTruncated},
		{20, nil, 0, api.ErrRange},
		{math.MaxInt, nil, 0, api.ErrRange},
	} {
		if got, next, e := wire.Next(both, c.at); !bytes.Equal(got, c.b) || next != c.next || e != c.e {
			t.Errorf("Next at %d = %v, %d, %v, want %v, %d, %v", c.at, got, next, e, c.b, c.next, c.e)
		}
	}
	for at, want := range map[int]api.Errno{-1: api.ErrRange, 0: api.ErrTruncated, 1: api.ErrRange} {
		for _, b := range [][]byte{nil, {}} {
			if got, next, e := wire.Next(b, at); len(got) != 0 || next != 0 || e != want {
				t.Errorf("Next of no bytes at %d = %v, %d, %v, want %v", at, got, next, e, want)
			}
		}
	}
}

// P8.5, R1: frames are what the definition says, and Next reads them, whatever is before and behind them.
func TestFrame(t *testing.T) {
	for _, b := range contents() {
		frame := frameBytes(b)
		if got := wire.Frame(b); !bytes.Equal(got, frame) {
			t.Errorf("Frame(%.60v) = %.60v, want %.60v", b, got, frame)
		}
		for _, before := range [][]byte{nil, {128}, filled(300, 255)} {
			for _, behind := range [][]byte{nil, {0}, {128, 0}, filled(10, 255), frame} {
				whole := join(before, frame, behind)
				got, next, e := wire.Next(whole, len(before))
				if !bytes.Equal(got, b) || next != len(before)+len(frame) || e != api.OK {
					t.Errorf("Next of the frame of %.60v behind %d bytes = %.60v, %d, %v", b, len(before), got, next, e)
				}
			}
		}
	}
}

// nextOf finds what Next comes to from the definition: content that is framed so, or the error.
func nextOf(b []byte, at int) ([]byte, int, api.Errno) {
	if at < 0 || at > len(b) {
		return nil, 0, api.ErrRange
	}
	rest := b[at:]
	length, width, e := varintOf(rest)
	switch {
	case e != api.OK:
		return nil, 0, e
	case float64(length)+8 > float64(len(rest)-width):
		return nil, 0, api.ErrTruncated
	}
	content := rest[width : width+int(length)]
	if !bytes.HasPrefix(rest, frameBytes(content)) {
		return nil, 0, api.ErrCorrupt
	}
	return content, at + width + int(length) + 8, api.OK
}

// checkNext compares Next with the definition, and returns its error.
func checkNext(t *testing.T, b []byte, at int) api.Errno {
	t.Helper()
	content, after, e := nextOf(b, at)
	got, next, f := wire.Next(b, at)
	if !bytes.Equal(got, content) || next != after || f != e {
		t.Errorf("Next of %.60v at %d = %.60v, %d, %v, want %.60v, %d, %v", b, at, got, next, f, content, after, e)
	}
	return f
}

// P8.5, R1: Next at each offset, also at those where no frame begins.
func TestNextAtEachOffset(t *testing.T) {
	var b []byte
	for _, content := range contents()[:40] {
		if len(content) < 200 {
			b = append(b, frameBytes(content)...)
		}
	}
	for at := -3; at <= len(b)+3; at++ {
		checkNext(t, b, at)
	}
	r := rand.New(rand.NewPCG(8, 7))
	for range 20000 {
		b := someBytes(r, r.IntN(30))
		checkNext(t, b, r.IntN(len(b)+3)-1)
	}
	for _, b := range varints() {
		checkNext(t, b, 0)
		checkNext(t, append(b[:len(b):len(b)], make([]byte, 20)...), 0)
	}
}

// P8.5: a frame that is cut off anywhere is truncated.
func TestNextOfACutFrame(t *testing.T) {
	for _, b := range contents() {
		if len(b) > 200 {
			continue
		}
		frame := wire.Frame(b)
		for cut := range frame {
			if got, next, e := wire.Next(frame[:cut], 0); len(got) != 0 || next != 0 || e != api.ErrTruncated {
				t.Errorf("Next of the first %d bytes of the frame of %v = %v, %d, %v", cut, b, got, next, e)
			}
		}
	}
}

// P8.5: lengths around what is left, and up to the greatest one, at which length and 8 do not fit any more.
func TestNextOfWrongLengths(t *testing.T) {
	for size := range 20 {
		lengths := []uint64{20, 127, 128, 1 << 31, 1 << 32, 1<<63 - 9, 1<<63 - 8, 1<<63 - 1, 1 << 63, 1<<64 - 20, 1<<64 - 9, 1<<64 - 8, 1<<64 - 7, 1<<64 - 1}
		for n := range uint64(20) {
			lengths = append(lengths, n)
		}
		for _, n := range lengths {
			want := api.ErrTruncated
			if size >= 8 && n <= uint64(size-8) {
				want = api.ErrCorrupt
			}
			b := append(uintBytes(n), filled(size, 7)...)
			if got, next, e := wire.Next(b, 0); len(got) != 0 || next != 0 || e != want {
				t.Errorf("Next with the length %d of %d bytes = %v, %d, %v, want %v", n, size, got, next, e, want)
			}
		}
	}
	long := filled(200, 1)
	frame := frameBytes(long)
	for want, b := range map[api.Errno][]byte{
		api.ErrCorrupt:  join([]byte{200, 129, 0}, frame[2:]),
		api.ErrOverflow: join(filled(9, 200), []byte{2}, frame[2:]),
	} {
		if got, next, e := wire.Next(b, 0); len(got) != 0 || next != 0 || e != want {
			t.Errorf("Next of %.40v = %v, %d, %v, want %v", b, got, next, e, want)
		}
	}
}

// P8.5: a frame with a changed byte is no frame; if the byte is behind the length, it is corrupt.
func TestNextOfAChangedFrame(t *testing.T) {
	for _, b := range [][]byte{nil, {0}, []byte("lottery"), filled(130, 255)} {
		frame := frameBytes(b)
		_, width, _ := varintOf(frame)
		for i := range frame {
			for change := 1; change < 256; change++ {
				frame[i] ^= byte(change)
				e := checkNext(t, frame, 0)
				if e == api.OK || i >= width && e != api.ErrCorrupt {
					t.Errorf("Next of the frame of %v with byte %d changed by %d: %v", b, i, change, e)
				}
				frame[i] ^= byte(change)
			}
		}
	}
}

// R3: Frame and Next neither change nor keep their bytes, and return new memory.
func TestFrameAndNextKeepNothing(t *testing.T) {
	room := []byte("lottery and more")
	b := room[:7]
	frame := wire.Frame(b)
	want := frameBytes([]byte("lottery"))
	if string(room) != "lottery and more" {
		t.Errorf("Frame changed its bytes to %q", room)
	}
	spoil(b)
	if !bytes.Equal(frame, want) {
		t.Errorf("Frame = %v after its bytes were changed, want %v", frame, want)
	}
	whole := append(frame[:len(frame):len(frame)], 1, 2, 3)
	before := slices.Clone(whole)
	first, _, _ := wire.Next(whole, 0)
	second, _, _ := wire.Next(whole, 0)
	spoil(first)
	if !bytes.Equal(whole, before) || string(second) != "lottery" {
		t.Errorf("changing a result of Next gave %v and %q", whole, second)
	}
	spoil(whole)
	if string(second) != "lottery" {
		t.Errorf("Next = %q after its bytes were changed", second)
	}
}

// P8.6: a reader returns what a writer wrote, by the same calls, with limits that just suffice and with greater ones.
func TestRoundTrip(t *testing.T) {
	r := rand.New(rand.NewPCG(8, 8))
	for range 100 {
		values := someValues(r, r.IntN(20))
		w := wire.NewWriter()
		for _, v := range values {
			v.write(w)
		}
		for _, further := range []int{0, 1, 1 << 40} {
			reader := wire.NewReader(w.Bytes())
			for _, v := range values {
				if got := readValue(reader, v.kind, v.size()+further); !same(got, v) {
					t.Fatalf("%.60v was written, and %.60v read", v, got)
				}
			}
			if reader.Left() != 0 || reader.Err() != api.OK {
				t.Fatalf("at the end: left %d, %v", reader.Left(), reader.Err())
			}
		}
	}
}

// P8.6: Next reads frames one after the other.
func TestFramesOneAfterTheOther(t *testing.T) {
	var b []byte
	for _, content := range contents() {
		b = append(b, wire.Frame(content)...)
	}
	at := 0
	for _, content := range contents() {
		got, next, e := wire.Next(b, at)
		if !bytes.Equal(got, content) || next != at+len(frameBytes(content)) || e != api.OK {
			t.Fatalf("Next at %d = %.60v, %d, %v, want %.60v", at, got, next, e, content)
		}
		at = next
	}
	if at != len(b) {
		t.Errorf("the last frame ends at %d of %d", at, len(b))
	}
	if _, _, e := wire.Next(b, at); e != api.ErrTruncated {
		t.Errorf("Next behind the last frame: %v", e)
	}
}

// checkUnique reads values of the kinds from b, and checks that writing them gives the bytes that were read.
func checkUnique(t *testing.T, b []byte, kinds ...int) {
	t.Helper()
	r, w := wire.NewReader(b), wire.NewWriter()
	for _, kind := range kinds {
		v := readValue(r, kind, math.MaxInt)
		if r.Err() != api.OK {
			return
		}
		v.write(w)
		if read := b[:len(b)-r.Left()]; !bytes.Equal(w.Bytes(), read) {
			t.Errorf("from %v, values of the kinds %v are read that are written as %v", read, kinds, w.Bytes())
			return
		}
	}
}

// P8.7: what is read without an error is written as the bytes that were read.
func TestUniqueness(t *testing.T) {
	for _, b := range shortStrings() {
		for first := range kinds {
			for second := range kinds {
				checkUnique(t, b, first, second)
			}
		}
	}
	for _, b := range varints() {
		for kind := range kinds {
			checkUnique(t, b, kind)
			checkUnique(t, join([]byte{1}, b), kindInts, kind)
		}
	}
	r := rand.New(rand.NewPCG(8, 9))
	for range 20000 {
		checkUnique(t, someBytes(r, r.IntN(40)), r.IntN(kinds), r.IntN(kinds), r.IntN(kinds), r.IntN(kinds))
	}
}

// P8.7: no two byte strings of up to two bytes are read as the same value to their ends.
func TestNoValueHasTwoEncodings(t *testing.T) {
	seen := map[uint64][]byte{}
	for _, b := range shortStrings() {
		r := wire.NewReader(b)
		x := r.Uint()
		if r.Err() != api.OK || r.Left() != 0 {
			continue
		}
		if before, ok := seen[x]; ok && !bytes.Equal(before, b) {
			t.Errorf("%d is read from %v and from %v", x, before, b)
		}
		seen[x] = b
	}
	for x := range uint64(16384) {
		if _, ok := seen[x]; !ok {
			t.Errorf("%d is not read from any two bytes", x)
		}
	}
}

// P8.1, R4: a nil writer writes nothing.
func TestNilWriter(t *testing.T) {
	var w *wire.Writer
	w.Int(1)
	w.Uint(300)
	w.Text("ab")
	w.Ints([]int{1, -2})
	w.Text("")
	w.Ints(nil)
	if b := w.Bytes(); len(b) != 0 {
		t.Errorf("Bytes = %v", b)
	}
}

// P8.4, R4: a nil reader reads nothing.
func TestNilReader(t *testing.T) {
	var r *wire.Reader
	for kind := range kinds {
		for _, most := range []int{math.MinInt, -1, 0, 1, math.MaxInt} {
			if v := readValue(r, kind, most); !same(v, value{kind: kind}) {
				t.Errorf("kind %d with the limit %d: %v", kind, most, v)
			}
			if r.Left() != 0 || r.Err() != api.ErrNone {
				t.Errorf("Left = %d, Err = %v", r.Left(), r.Err())
			}
		}
	}
}

// R1, R4: nothing panics for objects that no function returned.
func TestPlainObjects(t *testing.T) {
	w := &wire.Writer{}
	for kind := range kinds {
		value{kind: kind, s: "a", l: []int{1}}.write(w)
		readValue(&wire.Reader{}, kind, 1)
	}
	w.Bytes()
	(&wire.Reader{}).Left()
	(&wire.Reader{}).Err()
}

// R7: readers and writers know nothing of each other.
func TestObjectsAreIndependent(t *testing.T) {
	b := []byte{1, 2, 3}
	first, second := wire.NewReader(b), wire.NewReader(b)
	first.Uint()
	first.Text(1)
	if first.Err() != api.ErrLimit || second.Err() != api.OK || second.Left() != 3 || second.Uint() != 1 {
		t.Errorf("first: %v, second: %v, left %d", first.Err(), second.Err(), second.Left())
	}
	w, v := wire.NewWriter(), wire.NewWriter()
	w.Uint(1)
	v.Uint(2)
	w.Uint(3)
	if !bytes.Equal(w.Bytes(), []byte{1, 3}) || !bytes.Equal(v.Bytes(), []byte{2}) {
		t.Errorf("two writers: %v and %v", w.Bytes(), v.Bytes())
	}
}
