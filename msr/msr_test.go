package msr

import (
	"bytes"
	"math"
	"slices"
	"testing"

	"coldframe/api"
	"coldframe/gf"
	"coldframe/mat"
	"coldframe/vand"
)

// dice makes numbers that look as if they were random; the seed tells which.
type dice uint32

// below returns a number from 0 to n - 1.
func (d *dice) below(n int) int {
	*d = *d*1664525 + 1013904223
	return int(*d>>16) % n
}

// list makes n bytes.
func (d *dice) list(n int) []byte {
	l := make([]byte, n)
	for i := range l {
		l[i] = byte(d.below(256))
	}
	return l
}

// slots makes the numbers from 0 to n - 1, in any order.
func (d *dice) slots(n int) []int {
	l := upTo(n)
	for i := range l {
		k := d.below(n)
		l[i], l[k] = l[k], l[i]
	}
	return l
}

// upTo makes the numbers from 0 to n - 1.
func upTo(n int) []int {
	l := make([]int, n)
	for i := range l {
		l[i] = i
	}
	return l
}

// code makes a code of arguments that are known to be fit.
func code(t *testing.T, n, k int) *Code {
	t.Helper()
	c, e := New(n, k)
	if e != api.OK || c == nil {
		t.Fatalf("New(%d, %d): %v, %d", n, k, c, e)
	}
	return c
}

// codes makes, for each k, the codes with the fewest and the most shards, and one between.
func codes(t *testing.T) []*Code {
	t.Helper()
	var l []*Code
	for k := 2; k <= 8; k++ {
		for _, n := range []int{2*k - 1, 2*k + 2, 24} {
			l = append(l, code(t, n, k))
		}
	}
	return l
}

// refusedNew checks that New returns nil and ErrArg.
func refusedNew(t *testing.T, n, k int) {
	t.Helper()
	if c, e := New(n, k); c != nil || e != api.ErrArg {
		t.Errorf("New(%d, %d): %v, %d, want nil and %d", n, k, c, e, api.ErrArg)
	}
}

// encode makes the shards of a message that is known to be fit.
func encode(t *testing.T, c *Code, b []byte) [][]byte {
	t.Helper()
	l, e := c.Encode(b)
	if e != api.OK || len(l) != c.N() {
		t.Fatalf("n %d, k %d: Encode of %d bytes: %d shards, %d", c.N(), c.K(), len(b), len(l), e)
	}
	return l
}

// refusedEncode checks that Encode returns no shards and ErrArg.
func refusedEncode(t *testing.T, c *Code, b []byte) {
	t.Helper()
	if l, e := c.Encode(b); len(l) != 0 || e != api.ErrArg {
		t.Errorf("n %d, k %d: Encode of %d bytes: %v, %d, want none and %d", c.N(), c.K(), len(b), l, e, api.ErrArg)
	}
}

// pick makes parts of the shards in these slots.
func pick(shards [][]byte, slots ...int) []Part {
	var l []Part
	for _, slot := range slots {
		l = append(l, Part{Slot: slot, Data: shards[slot]})
	}
	return l
}

// decoded checks that Decode returns the message wanted.
func decoded(t *testing.T, c *Code, l []Part, want []byte) {
	t.Helper()
	if b, e := c.Decode(l); e != api.OK || !bytes.Equal(b, want) {
		t.Errorf("n %d, k %d: Decode(%v): %v, %d, want %v", c.N(), c.K(), l, b, e, want)
	}
}

// refusedDecode checks that Decode returns no bytes and the error wanted.
func refusedDecode(t *testing.T, c *Code, l []Part, want api.Errno) {
	t.Helper()
	if b, e := c.Decode(l); len(b) != 0 || e != want {
		t.Errorf("n %d, k %d: Decode(%v): %v, %d, want none and %d", c.N(), c.K(), l, b, e, want)
	}
}

// numbers checks what a code tells of itself.
func numbers(t *testing.T, c *Code, n, k, helpers, parts, symbols int) {
	t.Helper()
	got := [5]int{c.N(), c.K(), c.Helpers(), c.Parts(), c.Symbols()}
	if want := [5]int{n, k, helpers, parts, symbols}; got != want {
		t.Errorf("n, k, helpers, parts and symbols are %v, want %v", got, want)
	}
}

// P6.1

func TestNewByHand(t *testing.T) {
	numbers(t, code(t, 3, 2), 3, 2, 2, 1, 2)
	numbers(t, code(t, 24, 2), 24, 2, 2, 1, 2)
	numbers(t, code(t, 5, 3), 5, 3, 4, 2, 6)
	numbers(t, code(t, 9, 4), 9, 4, 6, 3, 12)
	numbers(t, code(t, 12, 5), 12, 5, 8, 4, 20)
	numbers(t, code(t, 11, 6), 11, 6, 10, 5, 30)
	numbers(t, code(t, 23, 7), 23, 7, 12, 6, 42)
	numbers(t, code(t, 15, 8), 15, 8, 14, 7, 56)
	numbers(t, code(t, 24, 8), 24, 8, 14, 7, 56)
}

func TestNewOfAllNumbers(t *testing.T) {
	for k := -20; k <= 40; k++ {
		for n := -60; n <= 90; n++ {
			if k >= 2 && k <= 8 && n >= 2*k-1 && n <= 24 {
				numbers(t, code(t, n, k), n, k, 2*k-2, k-1, k*(k-1))
			} else {
				refusedNew(t, n, k)
			}
		}
	}
}

func TestNewAtTheEdges(t *testing.T) {
	for n := range 30 {
		refusedNew(t, n, 1)
		refusedNew(t, n, 9)
	}
	for k := 2; k <= 8; k++ {
		refusedNew(t, 2*k-2, k)
		code(t, 2*k-1, k)
		code(t, 24, k)
		refusedNew(t, 25, k)
	}
}

func TestNewOfNumbersFarOff(t *testing.T) {
	far := []int{
		math.MinInt, math.MinInt + 1, math.MinInt32, -1 << 32,
		1 << 32, 1<<32 + 3, 1<<62 + 2, 1<<63 - 8, math.MaxInt32, math.MaxInt,
	}
	for _, x := range far {
		for _, near := range []int{0, 1, 2, 3, 5, 8, 15, 24} {
			refusedNew(t, x, near)
			refusedNew(t, near, x)
		}
		for _, y := range far {
			refusedNew(t, x, y)
		}
	}
}

// row checks the row of a slot.
func row(t *testing.T, c *Code, slot int, want ...byte) {
	t.Helper()
	if got := c.Row(slot); !bytes.Equal(got, want) {
		t.Errorf("n %d, k %d: Row(%d) is %v, want %v", c.N(), c.K(), slot, got, want)
	}
}

func TestRowByHand(t *testing.T) {
	c := code(t, 3, 2)
	row(t, c, -1)
	row(t, c, 0, 1, 0)
	row(t, c, 1, 1, 1)
	row(t, c, 2, 1, 2)
	row(t, c, 3)
	c = code(t, 5, 3)
	row(t, c, -1)
	row(t, c, 0, 1, 0, 0, 0)
	row(t, c, 1, 1, 1, 1, 1)
	row(t, c, 2, 1, 2, 4, 8)
	row(t, c, 3, 1, 3, 5, 15)
	row(t, c, 4, 1, 4, 16, 64)
	row(t, c, 5)
}

// With k = 6 the points are not merely the first elements, as some of those have the same power with the exponent 5.
func TestRowOfACodeThatLeavesElementsOut(t *testing.T) {
	c := code(t, 24, 6)
	points := []byte{0, 1, 2, 3, 4, 5, 6, 7, 8, 9, 11, 12, 14, 15, 16, 17, 18, 19, 21, 22, 24, 25, 27, 28}
	for slot, x := range points {
		if got := c.Row(slot)[1]; got != x {
			t.Errorf("the point of slot %d is %d, want %d", slot, got, x)
		}
	}
	row(t, code(t, 11, 6), 10, vand.Row(11, 10)...)
}

func TestRowOfEverySlot(t *testing.T) {
	for k := 2; k <= 8; k++ {
		for n := 2*k - 1; n <= 24; n++ {
			c := code(t, n, k)
			points, e := vand.Points(n, k-1)
			if e != api.OK {
				t.Fatal(e)
			}
			for slot, x := range points {
				row(t, c, slot, vand.Row(x, 2*k-2)...)
			}
			for _, slot := range []int{-1, -2, -n, n, n + 1, 24, 256, 1<<32 + 1, math.MinInt, math.MaxInt} {
				row(t, c, slot)
			}
		}
	}
}

// A nil code, and one that nobody made

func TestNilCode(t *testing.T) {
	for _, c := range []*Code{nil, {}} {
		numbers(t, c, 0, 0, 0, 0, 0)
		for _, slot := range []int{-1, 0, 1, 24, math.MinInt, math.MaxInt} {
			row(t, c, slot)
		}
		for n := range 60 {
			refusedEncode(t, c, make([]byte, n))
		}
		refusedEncode(t, c, nil)
		refusedDecode(t, c, nil, api.ErrArg)
		refusedDecode(t, c, []Part{}, api.ErrArg)
		refusedDecode(t, c, []Part{{}}, api.ErrArg)
		refusedDecode(t, c, []Part{{0, []byte{1}}, {1, []byte{2}}}, api.ErrArg)
	}
}

// P6.2

// matrixOf makes the matrix of a message with parts of one byte, as the chapter says it.
func matrixOf(k int, b []byte) *mat.Mat {
	m, _ := mat.New(2*k-2, k-1)
	for _, top := range []int{0, k - 1} {
		for i := range k - 1 {
			for j := i; j < k-1; j++ {
				m.Set(top+i, j, b[0])
				m.Set(top+j, i, b[0])
				b = b[1:]
			}
		}
	}
	return m
}

// partsAt makes a message, or a shard, with parts of one byte of one with parts of size bytes.
func partsAt(b []byte, size, at int) []byte {
	var l []byte
	for len(b) > 0 {
		l = append(l, b[at])
		b = b[size:]
	}
	return l
}

// shardsByMatrix makes the shards of a message, byte by byte, as products of matrices, to hold Encode against.
func shardsByMatrix(t *testing.T, n, k int, b []byte) [][]byte {
	t.Helper()
	size := len(b) / (k * (k - 1))
	shards := make([][]byte, n)
	for slot := range shards {
		shards[slot] = make([]byte, (k-1)*size)
	}
	points, _ := vand.Points(n, k-1)
	rows, _ := vand.Matrix(points, 2*k-2)
	for at := range size {
		product, e := mat.Mul(rows, matrixOf(k, partsAt(b, size, at)))
		if e != api.OK {
			t.Fatal(e)
		}
		for slot := range n {
			for j := range k - 1 {
				shards[slot][j*size+at] = product.At(slot, j)
			}
		}
	}
	return shards
}

// sameLists reports whether two lists have the same bytes.
func sameLists(a, b [][]byte) bool {
	return slices.EqualFunc(a, b, bytes.Equal)
}

// encoded checks that Encode returns the shards wanted.
func encoded(t *testing.T, c *Code, b []byte, want ...[]byte) {
	t.Helper()
	if got := encode(t, c, b); !sameLists(got, want) {
		t.Errorf("n %d, k %d: Encode(%v): %v, want %v", c.N(), c.K(), b, got, want)
	}
}

func TestEncodeByHand(t *testing.T) {
	c := code(t, 3, 2)
	// The parts a and b lead to a, a + b and a + 2b.
	encoded(t, c, []byte{5, 7}, []byte{5}, []byte{2}, []byte{11})
	encoded(t, c, []byte{0, 128}, []byte{0}, []byte{128}, []byte{29})
	encoded(t, c, []byte{0, 0}, []byte{0}, []byte{0}, []byte{0})
	// Parts of two bytes: the first byte of a part has to do with the first bytes of the others alone.
	encoded(t, c, []byte{5, 0, 7, 128}, []byte{5, 0}, []byte{2, 128}, []byte{11, 29})
}

// The matrix for k = 3 has the rows a b, b c, d e, e f, so a shard is a + bx + dx^2 + ex^3 and b + cx + ex^2 + fx^3.
func TestEncodeOfTwoColumnsByHand(t *testing.T) {
	c := code(t, 5, 3)
	encoded(t, c, []byte{1, 0, 0, 0, 0, 0}, []byte{1, 0}, []byte{1, 0}, []byte{1, 0}, []byte{1, 0}, []byte{1, 0})
	encoded(t, c, []byte{0, 1, 0, 0, 0, 0}, []byte{0, 1}, []byte{1, 1}, []byte{2, 1}, []byte{3, 1}, []byte{4, 1})
	encoded(t, c, []byte{0, 0, 1, 0, 0, 0}, []byte{0, 0}, []byte{0, 1}, []byte{0, 2}, []byte{0, 3}, []byte{0, 4})
	encoded(t, c, []byte{0, 0, 0, 1, 0, 0}, []byte{0, 0}, []byte{1, 0}, []byte{4, 0}, []byte{5, 0}, []byte{16, 0})
	encoded(t, c, []byte{0, 0, 0, 0, 1, 0}, []byte{0, 0}, []byte{1, 1}, []byte{8, 4}, []byte{15, 5}, []byte{64, 16})
	encoded(t, c, []byte{0, 0, 0, 0, 0, 1}, []byte{0, 0}, []byte{0, 1}, []byte{0, 8}, []byte{0, 15}, []byte{0, 64})
	encoded(t, c, []byte{1, 2, 3, 4, 5, 6}, []byte{1, 2}, []byte{2, 2},
		[]byte{1 ^ 4 ^ 16 ^ 40, 2 ^ 6 ^ 20 ^ 48},
		[]byte{1 ^ 6 ^ 20 ^ 51, 2 ^ 5 ^ 17 ^ 34},
		[]byte{1 ^ 8 ^ 64 ^ gf.Mul(5, 64), 2 ^ 12 ^ 80 ^ gf.Mul(6, 64)})
}

// A message of which one part alone is not 0 tells where in the matrix that part is.
func TestEncodeTellsWhereEachPartIs(t *testing.T) {
	c := code(t, 7, 4)
	places := [][][2]int{ // row and column
		{{0, 0}}, {{0, 1}, {1, 0}}, {{0, 2}, {2, 0}}, {{1, 1}}, {{1, 2}, {2, 1}}, {{2, 2}},
		{{3, 0}}, {{3, 1}, {4, 0}}, {{3, 2}, {5, 0}}, {{4, 1}}, {{4, 2}, {5, 1}}, {{5, 2}},
	}
	for part, where := range places {
		b := make([]byte, 12)
		b[part] = 1
		for slot, shard := range encode(t, c, b) {
			want := make([]byte, 3)
			for _, p := range where {
				want[p[1]] = c.Row(slot)[p[0]]
			}
			if !bytes.Equal(shard, want) {
				t.Errorf("the part %d alone: slot %d has %v, want %v", part, slot, shard, want)
			}
		}
	}
}

// The point of slot 0 is 0, so its shard is the first row of the matrix.
func TestFirstShardIsTheFirstParts(t *testing.T) {
	d := dice(1)
	for _, c := range codes(t) {
		for _, size := range []int{1, 2, 7} {
			b := d.list(c.Symbols() * size)
			if first := encode(t, c, b)[0]; !bytes.Equal(first, b[:c.Parts()*size]) {
				t.Errorf("n %d, k %d, %v: the shard of slot 0 is %v", c.N(), c.K(), b, first)
			}
		}
	}
}

func TestEncodeIsTheProductOfMatrices(t *testing.T) {
	d := dice(2)
	for k := 2; k <= 8; k++ {
		for n := 2*k - 1; n <= 24; n++ {
			c := code(t, n, k)
			for _, size := range []int{1, 2, 3} {
				b := d.list(c.Symbols() * size)
				encoded(t, c, b, shardsByMatrix(t, n, k, b)...)
			}
		}
	}
}

func TestEncodeOfLongParts(t *testing.T) {
	d := dice(3)
	for _, p := range [][2]int{{3, 2}, {6, 3}, {24, 8}} {
		c := code(t, p[0], p[1])
		for _, size := range []int{64, 65, 256, 257} {
			b := d.list(c.Symbols() * size)
			encoded(t, c, b, shardsByMatrix(t, p[0], p[1], b)...)
		}
	}
}

func TestLengthsOfShards(t *testing.T) {
	for _, c := range codes(t) {
		for _, size := range []int{1, 2, 5, 16} {
			for slot, shard := range encode(t, c, make([]byte, c.Symbols()*size)) {
				if !bytes.Equal(shard, make([]byte, c.Parts()*size)) {
					t.Errorf("n %d, k %d, zeros: slot %d has %v", c.N(), c.K(), slot, shard)
				}
			}
		}
	}
}

func TestEncodeOfWrongLengths(t *testing.T) {
	for _, c := range codes(t) {
		refusedEncode(t, c, nil)
		refusedEncode(t, c, []byte{})
		refusedEncode(t, c, make([]byte, c.Symbols())[:0])
		for length := 1; length <= 3*c.Symbols()+1; length++ {
			if length%c.Symbols() == 0 {
				encode(t, c, make([]byte, length))
			} else {
				refusedEncode(t, c, make([]byte, length))
			}
		}
		refusedEncode(t, c, make([]byte, c.Symbols()*10000-1))
	}
	// Multiples of other numbers that a code has do not suffice.
	c := code(t, 9, 4)
	for _, length := range []int{3, 4, 6, 9, 18, 27} {
		refusedEncode(t, c, make([]byte, length))
	}
}

// P6.3

func TestDecodeByHand(t *testing.T) {
	c := code(t, 3, 2)
	decoded(t, c, []Part{{0, []byte{5}}, {1, []byte{2}}}, []byte{5, 7})
	decoded(t, c, []Part{{1, []byte{2}}, {0, []byte{5}}}, []byte{5, 7})
	decoded(t, c, []Part{{0, []byte{5}}, {2, []byte{11}}}, []byte{5, 7})
	decoded(t, c, []Part{{2, []byte{11}}, {1, []byte{2}}}, []byte{5, 7})
	decoded(t, c, []Part{{2, []byte{11, 29}}, {1, []byte{2, 128}}}, []byte{5, 0, 7, 128})
	decoded(t, c, []Part{{0, []byte{0}}, {1, []byte{0}}}, []byte{0, 0})
	c = code(t, 5, 3)
	decoded(t, c, []Part{{1, []byte{1, 1}}, {4, []byte{64, 16}}, {2, []byte{8, 4}}}, []byte{0, 0, 0, 0, 1, 0})
}

// Whatever the shards are, there is just one message that has them.
func TestDecodeFindsTheOnlyMessage(t *testing.T) {
	d := dice(4)
	for _, c := range codes(t) {
		for _, size := range []int{1, 3} {
			slots := d.slots(c.N())
			var l []Part
			for _, slot := range slots[:c.K()] {
				l = append(l, Part{slot, d.list(c.Parts() * size)})
			}
			b, e := c.Decode(l)
			if e != api.OK || len(b) != c.Symbols()*size {
				t.Fatalf("n %d, k %d: Decode(%v): %v, %d", c.N(), c.K(), l, b, e)
			}
			shards := shardsByMatrix(t, c.N(), c.K(), b)
			for _, p := range l {
				if !bytes.Equal(shards[p.Slot], p.Data) {
					t.Errorf("n %d, k %d: Decode(%v): %v, whose shard in slot %d is %v", c.N(), c.K(), l, b, p.Slot, shards[p.Slot])
				}
			}
		}
	}
}

func TestDecodeOfLongParts(t *testing.T) {
	d := dice(5)
	for _, p := range [][2]int{{3, 2}, {6, 3}, {24, 8}} {
		c := code(t, p[0], p[1])
		for _, size := range []int{64, 65, 256, 257} {
			b := d.list(c.Symbols() * size)
			decoded(t, c, pick(encode(t, c, b), d.slots(c.N())[:c.K()]...), b)
		}
	}
}

// More than k are permitted; the first k decide, whatever the others have.
func TestDecodeUsesTheFirst(t *testing.T) {
	d := dice(6)
	for _, c := range codes(t) {
		b := d.list(c.Symbols() * 2)
		slots := d.slots(c.N())
		l := pick(encode(t, c, b), slots...)
		decoded(t, c, l, b)
		decoded(t, c, l[:c.K()+1], b)
		decoded(t, c, l[:c.K()], b)
		for i := c.K(); i < len(l); i++ {
			l[i].Data = d.list(c.Parts() * 2)
		}
		decoded(t, c, l, b)
		// Among the first, a shard with another byte leads to another message.
		l[c.K()-1].Data = bytes.Clone(l[c.K()-1].Data)
		l[c.K()-1].Data[0]++
		if other, e := c.Decode(l); e != api.OK || len(other) != len(b) || bytes.Equal(other, b) {
			t.Errorf("n %d, k %d: Decode(%v): %v, %d", c.N(), c.K(), l, other, e)
		}
	}
}

func TestDecodeOfTooFew(t *testing.T) {
	for _, c := range codes(t) {
		refusedDecode(t, c, nil, api.ErrFew)
		refusedDecode(t, c, []Part{}, api.ErrFew)
		l := pick(encode(t, c, make([]byte, c.Symbols())), upTo(c.N())...)
		for count := range c.K() {
			refusedDecode(t, c, l[:count], api.ErrFew)
			refusedDecode(t, c, l[c.N()-count:], api.ErrFew)
		}
		decoded(t, c, l[:c.K()], make([]byte, c.Symbols()))
	}
}

func TestDecodeOfSlotsThatDoNotExist(t *testing.T) {
	for _, c := range codes(t) {
		shards := encode(t, c, make([]byte, c.Symbols()))
		for _, slot := range []int{-1, -2, c.N(), c.N() + 1, 25, 32, 256, 1 << 32, math.MinInt, math.MaxInt} {
			// Also where there are too few, and where the wrong one is not among the first k.
			for _, count := range []int{1, c.K() - 1, c.K(), c.K() + 1, c.N()} {
				for i := range count {
					l := pick(shards, upTo(count)...)
					l[i].Slot = slot
					refusedDecode(t, c, l, api.ErrArg)
				}
			}
		}
	}
}

func TestDecodeOfSlotsThatOccurTwice(t *testing.T) {
	d := dice(7)
	for _, c := range codes(t) {
		b := d.list(c.Symbols())
		shards := encode(t, c, b)
		for _, count := range []int{2, c.K(), c.K() + 1, c.N()} {
			for i := range count {
				for k := range i {
					l := pick(shards, upTo(count)...)
					l[i].Slot = k // the Data of another slot
					refusedDecode(t, c, l, api.ErrArg)
					l[i] = l[k]
					refusedDecode(t, c, l, api.ErrArg)
				}
			}
		}
		// More parts than there are slots.
		l := append(pick(shards, upTo(c.N())...), pick(shards, upTo(c.N())...)...)
		refusedDecode(t, c, l, api.ErrArg)
		decoded(t, c, l[:c.N()], b)
	}
}

func TestDecodeOfEmptyData(t *testing.T) {
	for _, c := range codes(t) {
		shards := encode(t, c, make([]byte, c.Symbols()))
		for _, count := range []int{1, c.K() - 1, c.K(), c.K() + 1, c.N()} {
			all := pick(shards, upTo(count)...)
			for i := range count {
				for _, empty := range [][]byte{nil, {}, shards[i][:0]} {
					l := slices.Clone(all)
					l[i].Data = empty
					refusedDecode(t, c, l, api.ErrArg)
				}
			}
			for i := range count {
				all[i].Data = nil
			}
			refusedDecode(t, c, all, api.ErrArg)
		}
	}
}

func TestDecodeOfDifferentLengths(t *testing.T) {
	for _, c := range codes(t) {
		shards := encode(t, c, make([]byte, 2*c.Symbols()))
		length := 2 * c.Parts()
		for _, count := range []int{2, c.K(), c.K() + 1, c.N()} {
			for i := range count {
				for _, other := range []int{length - 1, length + 1, c.Parts(), 3 * c.Parts()} {
					l := pick(shards, upTo(count)...)
					l[i].Data = make([]byte, other)
					refusedDecode(t, c, l, api.ErrArg)
				}
			}
		}
	}
}

func TestDecodeOfLengthsThatAreNoMultiple(t *testing.T) {
	for _, c := range codes(t) {
		for length := 1; length <= 3*c.Parts()+1; length++ {
			var l []Part
			for slot := range c.N() {
				l = append(l, Part{slot, make([]byte, length)})
			}
			// There being too few is named ahead of the length.
			refusedDecode(t, c, l[:1], api.ErrFew)
			refusedDecode(t, c, l[:c.K()-1], api.ErrFew)
			for _, count := range []int{c.K(), c.K() + 1, c.N()} {
				if length%c.Parts() == 0 {
					decoded(t, c, l[:count], make([]byte, length*c.K()))
				} else {
					refusedDecode(t, c, l[:count], api.ErrArg)
				}
			}
		}
	}
}

// Where several errors apply, the first that the chapter names is returned.
func TestDecodeOfSeveralFaults(t *testing.T) {
	c := code(t, 6, 3)
	few := []Part{{0, []byte{1, 2}}, {1, []byte{3, 4}}}
	odd := []Part{{0, []byte{1, 2, 3}}, {1, []byte{3, 4, 5}}, {2, []byte{6, 7, 8}}}
	refusedDecode(t, c, few, api.ErrFew)
	refusedDecode(t, c, odd, api.ErrArg)
	refusedDecode(t, c, odd[:2], api.ErrFew)
	refusedDecode(t, c, []Part{few[0], {6, []byte{3, 4}}}, api.ErrArg)
	refusedDecode(t, c, []Part{few[0], {-1, []byte{3, 4}}}, api.ErrArg)
	refusedDecode(t, c, []Part{few[0], few[0]}, api.ErrArg)
	refusedDecode(t, c, []Part{few[0], {1, nil}}, api.ErrArg)
	refusedDecode(t, c, []Part{few[0], odd[1]}, api.ErrArg)
	refusedDecode(t, c, []Part{odd[0], odd[0]}, api.ErrArg)
	refusedDecode(t, c, []Part{{0, nil}}, api.ErrArg)
	refusedDecode(t, c, []Part{{7, nil}}, api.ErrArg)
	refusedDecode(t, c, []Part{{}}, api.ErrArg)
}

// P6.4

// choices calls do with each choice of k of the numbers from 0 to n - 1, rising.
func choices(n, k int, do func([]int)) {
	var chosen []int
	var extend func(from int)
	extend = func(from int) {
		if len(chosen) == k {
			do(slices.Clone(chosen))
			return
		}
		for i := from; i < n; i++ {
			chosen = append(chosen, i)
			extend(i + 1)
			chosen = chosen[:len(chosen)-1]
		}
	}
	extend(0)
}

// orders calls do with each order of a list.
func orders(l []int, do func([]int)) {
	var arrange func(fixed int)
	arrange = func(fixed int) {
		if fixed == len(l) {
			do(l)
			return
		}
		for i := fixed; i < len(l); i++ {
			l[fixed], l[i] = l[i], l[fixed]
			arrange(fixed + 1)
			l[fixed], l[i] = l[i], l[fixed]
		}
	}
	arrange(0)
}

func TestDecodeOfAnyShards(t *testing.T) {
	d := dice(8)
	for _, p := range [][2]int{
		{3, 2}, {4, 2}, {13, 2}, {24, 2}, {5, 3}, {8, 3}, {24, 3}, {7, 4}, {9, 4}, {12, 4}, {9, 5}, {11, 6},
	} {
		c := code(t, p[0], p[1])
		b := d.list(c.Symbols() * 2)
		shards := encode(t, c, b)
		choices(c.N(), c.K(), func(slots []int) {
			decoded(t, c, pick(shards, slots...), b)
		})
	}
}

func TestDecodeOfAnyShardsInAnyOrder(t *testing.T) {
	d := dice(9)
	for _, p := range [][2]int{{3, 2}, {9, 2}, {5, 3}, {8, 3}, {7, 4}} {
		c := code(t, p[0], p[1])
		b := d.list(c.Symbols() * 2)
		shards := encode(t, c, b)
		choices(c.N(), c.K(), func(slots []int) {
			orders(slots, func(slots []int) {
				decoded(t, c, pick(shards, slots...), b)
			})
		})
	}
}

func TestDecodeOfSomeShardsOfEveryCode(t *testing.T) {
	d := dice(10)
	for k := 2; k <= 8; k++ {
		for n := 2*k - 1; n <= 24; n++ {
			c := code(t, n, k)
			b := d.list(c.Symbols())
			shards := encode(t, c, b)
			decoded(t, c, pick(shards, upTo(n)[:k]...), b)
			decoded(t, c, pick(shards, upTo(n)[n-k:]...), b)
			decoded(t, c, pick(shards, d.slots(n)[:k]...), b)
		}
	}
}

// Memory

// roomy returns a slice with these bytes and others behind its end, and all of its memory.
func roomy(l []byte) (slice, memory []byte) {
	memory = append(bytes.Clone(l), 201, 202, 203, 204, 205, 206, 207, 208)
	return memory[:len(l)], memory
}

// scrawl writes over a slice and all that is behind its end.
func scrawl(l []byte) {
	l = l[:cap(l)]
	for i := range l {
		l[i] = ^l[i]
	}
}

func TestEncodeChangesNoArgument(t *testing.T) {
	d := dice(11)
	for _, c := range append(codes(t), nil) {
		for _, length := range []int{0, 1, c.Symbols(), c.Symbols() + 1, 3 * c.Symbols()} {
			b, memory := roomy(d.list(length))
			before := bytes.Clone(memory)
			c.Encode(b)
			if !bytes.Equal(memory, before) {
				t.Errorf("n %d, k %d: the message %v was %v", c.N(), c.K(), memory, before)
			}
		}
	}
}

func TestShardsAreApart(t *testing.T) {
	d := dice(12)
	for _, c := range codes(t) {
		b, memory := roomy(d.list(c.Symbols() * 2))
		before := bytes.Clone(b)
		want := shardsByMatrix(t, c.N(), c.K(), b)
		shards := encode(t, c, b)
		scrawl(b)
		if !sameLists(shards, want) {
			t.Fatalf("n %d, k %d: the shards have changed with the message", c.N(), c.K())
		}
		copy(b, before)
		before = bytes.Clone(memory)
		for slot := range shards {
			scrawl(shards[slot])
			if !sameLists(shards[slot+1:], want[slot+1:]) {
				t.Errorf("n %d, k %d: shards have changed with that of slot %d", c.N(), c.K(), slot)
			}
		}
		if !bytes.Equal(memory, before) {
			t.Errorf("n %d, k %d: the message has changed with the shards", c.N(), c.K())
		}
		encoded(t, c, b, want...) // and the code has not
		decoded(t, c, pick(want, upTo(c.K())...), b)
	}
}

// roomyParts returns parts with other memory behind the end of the list and of each Data, and all of that memory.
func roomyParts(l []Part) (list, all []Part, memory [][]byte) {
	for _, p := range l {
		data, m := roomy(p.Data)
		all, memory = append(all, Part{p.Slot, data}), append(memory, m)
	}
	spare := []byte{209, 210}
	all, memory = append(all, Part{77, spare}, Part{-5, spare[:1]}), append(memory, spare)
	return all[:len(l)], all, memory
}

// sameParts reports whether two lists have the same slots and bytes.
func sameParts(a, b []Part) bool {
	return slices.EqualFunc(a, b, func(p, q Part) bool { return p.Slot == q.Slot && bytes.Equal(p.Data, q.Data) })
}

// copied returns lists in memory of their own.
func copied(l [][]byte) [][]byte {
	var c [][]byte
	for _, b := range l {
		c = append(c, bytes.Clone(b))
	}
	return c
}

func TestDecodeChangesNoArgument(t *testing.T) {
	d := dice(13)
	for _, c := range codes(t) {
		shards := encode(t, c, d.list(c.Symbols()*2))
		slots := d.slots(c.N())
		faulty := pick(shards, slots...)
		faulty[c.N()-1].Slot = faulty[0].Slot
		for _, l := range [][]Part{
			pick(shards, slots...),
			pick(shards, slots[:c.K()]...),
			pick(shards, slots[:c.K()-1]...),
			faulty,
			nil,
		} {
			list, all, memory := roomyParts(l)
			beforeList, beforeMemory := slices.Clone(all), copied(memory)
			c.Decode(list)
			(*Code)(nil).Decode(list)
			if !sameParts(all, beforeList) || !sameLists(memory, beforeMemory) {
				t.Errorf("n %d, k %d: Decode has changed the shards %v", c.N(), c.K(), beforeList)
			}
		}
	}
}

func TestMessageIsApart(t *testing.T) {
	d := dice(14)
	for _, c := range codes(t) {
		want := d.list(c.Symbols() * 2)
		shards := encode(t, c, want)
		list, all, memory := roomyParts(pick(shards, d.slots(c.N())[:c.K()]...))
		b, e := c.Decode(list)
		if e != api.OK {
			t.Fatal(e)
		}
		second, _ := c.Decode(list)
		for _, m := range memory {
			scrawl(m)
		}
		if !bytes.Equal(b, want) {
			t.Fatalf("n %d, k %d: the message has changed with the shards", c.N(), c.K())
		}
		beforeList, beforeMemory := slices.Clone(all), copied(memory)
		scrawl(b)
		if !sameParts(all, beforeList) || !sameLists(memory, beforeMemory) {
			t.Errorf("n %d, k %d: the shards have changed with the message", c.N(), c.K())
		}
		if !bytes.Equal(second, want) {
			t.Errorf("n %d, k %d: a message has changed with another", c.N(), c.K())
		}
		decoded(t, c, pick(shards, upTo(c.K())...), want) // the code has not changed
	}
}

func TestRowIsApartFromTheCode(t *testing.T) {
	d := dice(15)
	for _, c := range codes(t) {
		b := d.list(c.Symbols())
		shards := encode(t, c, b)
		for slot := range c.N() {
			want := bytes.Clone(c.Row(slot))
			scrawl(c.Row(slot))
			row(t, c, slot, want...)
		}
		encoded(t, c, b, shards...)
		decoded(t, c, pick(shards, upTo(c.N())...), b)
	}
}

// The results of a call depend on the code and the arguments alone, not on the calls before.
func TestCallsBeforeDoNotMatter(t *testing.T) {
	d := dice(16)
	for _, c := range codes(t) {
		b := d.list(c.Symbols() * 3)
		want := encode(t, c, b)
		encode(t, c, d.list(c.Symbols()*5))
		refusedEncode(t, c, nil)
		encode(t, code(t, 24, 2), b[:2])
		encoded(t, c, b, want...)
		l := pick(want, d.slots(c.N())[:c.K()]...)
		decoded(t, c, l, b)
		refusedDecode(t, c, l[1:], api.ErrFew)
		refusedDecode(t, c, append(slices.Clone(l), l[0]), api.ErrArg)
		decoded(t, c, pick(want, d.slots(c.N())[:c.K()]...), b)
		decoded(t, c, l, b)
		encoded(t, code(t, c.N(), c.K()), b, want...)
		numbers(t, c, c.N(), c.K(), 2*c.K()-2, c.K()-1, c.K()*(c.K()-1))
	}
}
