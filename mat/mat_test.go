package mat

import (
	"bytes"
	"math"
	"slices"
	"testing"

	"coldframe/api"
	"coldframe/gf"
)

// of makes a matrix of rows that are known to be fit.
func of(t *testing.T, rows ...[]byte) *Mat {
	t.Helper()
	m, e := Of(rows...)
	if e != api.OK || m == nil {
		t.Fatalf("Of(%v): %v, %d", rows, m, e)
	}
	return m
}

// mixed makes a matrix whose elements look as if they were random; the seed tells which.
func mixed(t *testing.T, rows, cols int, seed uint32) *Mat {
	t.Helper()
	m, e := New(rows, cols)
	if e != api.OK || m == nil {
		t.Fatalf("New(%d, %d): %v, %d", rows, cols, m, e)
	}
	for i := range rows {
		for k := range cols {
			seed = seed*1664525 + 1013904223
			if e := m.Set(i, k, byte(seed>>24)); e != api.OK {
				t.Fatalf("Set(%d, %d): %d", i, k, e)
			}
		}
	}
	return m
}

// check holds a matrix against the rows it should have, by Size, At and Row.
func check(t *testing.T, what string, m *Mat, want ...[]byte) {
	t.Helper()
	rows, cols := m.Size()
	if m == nil || rows != len(want) || cols != len(want[0]) {
		t.Fatalf("%s: size %d, %d, want the rows %v", what, rows, cols, want)
	}
	for i, w := range want {
		if r := m.Row(i); !bytes.Equal(r, w) {
			t.Errorf("%s: row %d is %v, want %v", what, i, r, w)
		}
		for k, x := range w {
			if m.At(i, k) != x {
				t.Errorf("%s: element %d, %d is %d, want %d", what, i, k, m.At(i, k), x)
			}
		}
	}
}

// refused holds the answer of a call that should return ErrArg against it.
func refused(t *testing.T, what string, m *Mat, e api.Errno) {
	t.Helper()
	if m != nil || e != api.ErrArg {
		t.Errorf("%s: %v, %d, want nil and ErrArg", what, m, e)
	}
}

// zeros makes rows of zeros.
func zeros(rows, cols int) [][]byte {
	var l [][]byte
	for range rows {
		l = append(l, make([]byte, cols))
	}
	return l
}

// P3.1

func TestMostIs64(t *testing.T) {
	if Most != 64 {
		t.Error(Most)
	}
}

func TestNewIsZeros(t *testing.T) {
	for _, size := range [][2]int{{1, 1}, {1, 2}, {2, 1}, {3, 5}, {63, 63}, {1, 64}, {64, 1}, {63, 64}, {64, 64}} {
		m, e := New(size[0], size[1])
		if e != api.OK {
			t.Errorf("New(%d, %d): %d", size[0], size[1], e)
			continue
		}
		check(t, "New", m, zeros(size[0], size[1])...)
	}
}

func TestNewOfAWrongSize(t *testing.T) {
	for _, n := range []int{math.MinInt, -64, -1, 0, 65, 66, 128, 256 + 1, 1<<32 + 1, math.MaxInt} {
		for _, good := range []int{1, 2, 64} {
			m, e := New(n, good)
			refused(t, "too few or too many rows", m, e)
			m, e = New(good, n)
			refused(t, "too few or too many columns", m, e)
		}
		m, e := New(n, n)
		refused(t, "too few or too many rows and columns", m, e)
	}
}

func TestNewMatricesAreApart(t *testing.T) {
	a, _ := New(2, 2)
	b, _ := New(2, 2)
	a.Set(0, 0, 5)
	check(t, "the other one", b, []byte{0, 0}, []byte{0, 0})
}

func TestOf(t *testing.T) {
	check(t, "one element", of(t, []byte{7}), []byte{7})
	check(t, "one row", of(t, []byte{7, 0, 255}), []byte{7, 0, 255})
	check(t, "one column", of(t, []byte{7}, []byte{0}, []byte{255}), []byte{7}, []byte{0}, []byte{255})
	check(t, "three rows", of(t, []byte{1, 2}, []byte{3, 4}, []byte{5, 6}), []byte{1, 2}, []byte{3, 4}, []byte{5, 6})
}

func TestOfTheGreatestSize(t *testing.T) {
	rows := zeros(64, 64)
	for i, r := range rows {
		for k := range r {
			r[k] = byte(i*64 + k*3 + i/4)
		}
	}
	check(t, "64 rows of 64", of(t, rows...), rows...)
}

func TestOfNoRows(t *testing.T) {
	m, e := Of()
	refused(t, "Of()", m, e)
	m, e = Of([][]byte{}...)
	refused(t, "Of of an empty list", m, e)
}

func TestOfRowsOfAWrongNumberOrLength(t *testing.T) {
	for _, rows := range [][][]byte{
		{nil}, {{}}, {{}, {}}, {nil, {}}, zeros(64, 0), zeros(1, 65), zeros(64, 65), zeros(65, 1), zeros(65, 64), zeros(257, 1), zeros(1, 257),
	} {
		m, e := Of(rows...)
		refused(t, "Of", m, e)
	}
}

func TestOfRowsOfDifferentLengths(t *testing.T) {
	for _, rows := range [][][]byte{
		{{1}, {1, 2}}, {{1, 2}, {1}}, {{1, 2}, nil}, {nil, {1, 2}}, {{}, {1}}, {{1}, {}},
		{{1, 2}, {3, 4}, {5}}, {{1, 2}, {3, 4}, {5, 6, 7}}, {{1, 2}, {3}, {5, 6}}, {{1, 2}, {3}, {4, 5, 6}}, {{1, 2, 3}, {4}, {5, 6}},
		{make([]byte, 64), make([]byte, 65)}, {make([]byte, 64), make([]byte, 63)}, {make([]byte, 1), make([]byte, 257)},
	} {
		m, e := Of(rows...)
		refused(t, "Of", m, e)
	}
}

func TestOfKeepsMemoryApart(t *testing.T) {
	long := []byte{1, 2, 3, 4, 5, 6}
	rows := [][]byte{long[:2], long[2:4], {8, 9}}[:2]
	m := of(t, rows...)
	m.Set(0, 1, 77)
	m.Set(1, 1, 78)
	if !bytes.Equal(long, []byte{1, 2, 3, 4, 5, 6}) || !bytes.Equal(rows[:3][2], []byte{8, 9}) {
		t.Error("argument modified:", long, rows[:3])
	}
	for i := range long {
		long[i] = 0
	}
	rows[0] = []byte{5, 5}
	check(t, "after changes to the argument", m, []byte{1, 77}, []byte{3, 78})
}

func TestOfOneRowTwice(t *testing.T) {
	r := []byte{1, 2}
	m := of(t, r, r)
	m.Set(0, 0, 9)
	check(t, "one row twice", m, []byte{9, 2}, []byte{1, 2})
}

func TestOne(t *testing.T) {
	for n := 1; n <= 64; n++ {
		m, e := One(n)
		if e != api.OK {
			t.Fatalf("One(%d): %d", n, e)
		}
		want := zeros(n, n)
		for i := range want {
			want[i][i] = 1
		}
		check(t, "One", m, want...)
	}
}

func TestOneOfAWrongSize(t *testing.T) {
	for _, n := range []int{math.MinInt, -1, 0, 65, 66, 257, math.MaxInt} {
		m, e := One(n)
		refused(t, "One", m, e)
	}
}

func TestOneChangesNoProduct(t *testing.T) {
	a := mixed(t, 5, 7, 1)
	left, _ := One(5)
	right, _ := One(7)
	if p, e := Mul(left, a); e != api.OK || !Same(p, a) {
		t.Error("One as the left factor:", p, e)
	}
	if p, e := Mul(a, right); e != api.OK || !Same(p, a) {
		t.Error("One as the right factor:", p, e)
	}
}

// P3.2

// outside are elements that a matrix of 2 rows and 3 columns does not have, though some are beside it in memory.
func outside() [][2]int {
	return [][2]int{
		{-1, 0}, {-1, 2}, {-1, 3}, {-1, 5}, {2, 0}, {2, 2}, {2, -1}, {3, -3}, {0, -1}, {1, -1}, {1, -3}, {0, 3}, {0, 5}, {1, 3}, {2, 3}, {-1, -1},
		{math.MinInt, 0}, {math.MaxInt, 0}, {0, math.MinInt}, {0, math.MaxInt}, {math.MinInt, math.MaxInt}, {math.MaxInt, math.MinInt},
		{1 << 62, 0}, {1 << 63 / 3, 1}, {1 << 32, 0}, {0, 1 << 32},
	}
}

func TestSize(t *testing.T) {
	for _, size := range [][2]int{{1, 1}, {2, 3}, {3, 2}, {1, 64}, {64, 1}, {64, 64}} {
		m, _ := New(size[0], size[1])
		if r, c := m.Size(); r != size[0] || c != size[1] {
			t.Errorf("Size: %d, %d, want %v", r, c, size)
		}
	}
}

func TestAt(t *testing.T) {
	m := of(t, []byte{1, 2, 3}, []byte{4, 5, 6})
	want := byte(1)
	for i := range 2 {
		for k := range 3 {
			if m.At(i, k) != want {
				t.Errorf("At(%d, %d): %d, want %d", i, k, m.At(i, k), want)
			}
			want++
		}
	}
	for _, o := range outside() {
		if x := m.At(o[0], o[1]); x != 0 {
			t.Errorf("At(%d, %d): %d, want 0", o[0], o[1], x)
		}
	}
}

func TestSet(t *testing.T) {
	m, _ := New(2, 3)
	if m.Set(0, 0, 9) != api.OK || m.Set(0, 2, 8) != api.OK || m.Set(1, 1, 255) != api.OK || m.Set(1, 2, 7) != api.OK {
		t.Error("an element that exists is refused")
	}
	check(t, "after Set", m, []byte{9, 0, 8}, []byte{0, 255, 7})
	if m.Set(0, 0, 0) != api.OK || m.Set(1, 2, 6) != api.OK {
		t.Error("an element is refused the second time")
	}
	check(t, "after Set again", m, []byte{0, 0, 8}, []byte{0, 255, 6})
}

func TestSetOfEveryElement(t *testing.T) {
	m, _ := New(64, 64)
	want := zeros(64, 64)
	for i := range 64 {
		for k := range 64 {
			want[i][k] = byte(i*37 + k*11 + 1)
			if e := m.Set(i, k, want[i][k]); e != api.OK {
				t.Fatalf("Set(%d, %d): %d", i, k, e)
			}
		}
	}
	check(t, "after Set", m, want...)
}

func TestSetOfWhatDoesNotExist(t *testing.T) {
	m := of(t, []byte{1, 2, 3}, []byte{4, 5, 6})
	for _, o := range outside() {
		if e := m.Set(o[0], o[1], 99); e != api.ErrArg {
			t.Errorf("Set(%d, %d): %d, want ErrArg", o[0], o[1], e)
		}
	}
	check(t, "after Set of what does not exist", m, []byte{1, 2, 3}, []byte{4, 5, 6})
}

func TestRow(t *testing.T) {
	m := of(t, []byte{1, 2, 3}, []byte{4, 5, 6})
	if a, b := m.Row(0), m.Row(1); !bytes.Equal(a, []byte{1, 2, 3}) || !bytes.Equal(b, []byte{4, 5, 6}) {
		t.Error(a, b)
	}
	for _, i := range []int{-1, -2, 2, 3, 64, 1 << 32, 1 << 62, math.MinInt, math.MaxInt} {
		if r := m.Row(i); len(r) != 0 {
			t.Errorf("Row(%d): %v", i, r)
		}
	}
}

func TestRowKeepsMemoryApart(t *testing.T) {
	m := of(t, []byte{1, 2}, []byte{3, 4})
	r, s := m.Row(0), m.Row(0)
	r[0] = 9
	_ = append(r, 8, 8)
	check(t, "after changes to a row", m, []byte{1, 2}, []byte{3, 4})
	m.Set(0, 1, 7)
	if !bytes.Equal(r, []byte{9, 2}) || !bytes.Equal(s, []byte{1, 2}) {
		t.Error("a row that was returned has changed:", r, s)
	}
}

func TestCopyIsIndependent(t *testing.T) {
	a := of(t, []byte{1, 2, 3}, []byte{4, 5, 6})
	b := a.Copy()
	check(t, "copy", b, []byte{1, 2, 3}, []byte{4, 5, 6})
	if a == b || !Same(a, b) {
		t.Error("the copy is the matrix, or another one")
	}
	a.Set(0, 0, 99)
	b.Set(1, 2, 88)
	check(t, "the matrix after a change to both", a, []byte{99, 2, 3}, []byte{4, 5, 6})
	check(t, "the copy after a change to both", b, []byte{1, 2, 3}, []byte{4, 5, 88})
}

func TestSame(t *testing.T) {
	a := of(t, []byte{1, 2, 3}, []byte{4, 5, 6})
	if !Same(a, a) || !Same(a, of(t, []byte{1, 2, 3}, []byte{4, 5, 6})) {
		t.Error("equal matrices are not the same")
	}
	for i := range 2 {
		for k := range 3 {
			b := a.Copy()
			b.Set(i, k, b.At(i, k)^128)
			if Same(a, b) || Same(b, a) {
				t.Errorf("matrices that differ in %d, %d are the same", i, k)
			}
		}
	}
}

func TestSameOfDifferentSizes(t *testing.T) {
	sizes := [][2]int{{1, 1}, {1, 2}, {2, 1}, {2, 2}, {1, 6}, {6, 1}, {2, 3}, {3, 2}, {3, 3}, {64, 1}, {1, 64}, {8, 8}}
	for i, x := range sizes {
		for k, y := range sizes {
			a, _ := New(x[0], x[1])
			b, _ := New(y[0], y[1])
			if Same(a, b) != (i == k) {
				t.Errorf("Same of zeros of the sizes %v and %v: %v", x, y, Same(a, b))
			}
		}
	}
	if Same(of(t, []byte{1, 2, 3}, []byte{4, 5, 6}), of(t, []byte{1, 2}, []byte{3, 4}, []byte{5, 6})) {
		t.Error("the same elements in another size are the same")
	}
}

func TestSameOfNil(t *testing.T) {
	zero, _ := New(1, 1)
	if !Same(nil, nil) || Same(nil, zero) || Same(zero, nil) {
		t.Error(Same(nil, nil), Same(nil, zero), Same(zero, nil))
	}
}

// P3.3

func TestTurned(t *testing.T) {
	check(t, "turned", of(t, []byte{1, 2}, []byte{3, 4}, []byte{5, 6}).Turned(), []byte{1, 3, 5}, []byte{2, 4, 6})
	check(t, "turned row", of(t, []byte{1, 2, 3}).Turned(), []byte{1}, []byte{2}, []byte{3})
	check(t, "turned column", of(t, []byte{1}, []byte{2}).Turned(), []byte{1, 2})
	check(t, "turned square", of(t, []byte{1, 2}, []byte{3, 4}).Turned(), []byte{1, 3}, []byte{2, 4})
	check(t, "turned element", of(t, []byte{9}).Turned(), []byte{9})
}

func TestTurnedOfManySizes(t *testing.T) {
	for _, size := range [][2]int{{1, 64}, {64, 1}, {64, 64}, {63, 64}, {7, 11}} {
		a := mixed(t, size[0], size[1], 5)
		b := a.Turned()
		if r, c := b.Size(); r != size[1] || c != size[0] {
			t.Fatalf("size %d, %d of the transpose of %v", r, c, size)
		}
		for i := range size[0] {
			for k := range size[1] {
				if a.At(i, k) != b.At(k, i) {
					t.Fatalf("size %v: element %d, %d", size, i, k)
				}
			}
		}
		if !Same(b.Turned(), a) {
			t.Errorf("size %v turned twice", size)
		}
	}
}

func TestTurnedIsIndependent(t *testing.T) {
	for _, size := range [][2]int{{1, 1}, {1, 3}, {3, 1}, {2, 2}} {
		a, _ := New(size[0], size[1])
		b := a.Turned()
		a.Set(0, 0, 5)
		if b.At(0, 0) != 0 {
			t.Errorf("size %v: the transpose has changed", size)
		}
		b.Set(0, 0, 6)
		if a.At(0, 0) != 5 {
			t.Errorf("size %v: the matrix has changed", size)
		}
	}
}

func TestDot(t *testing.T) {
	for _, c := range []struct {
		a, b []byte
		want byte
	}{
		{[]byte{1, 2}, []byte{3, 4}, 11},
		{[]byte{2}, []byte{128}, 29},
		{[]byte{3, 0}, []byte{7, 255}, 9},
		{[]byte{5, 5}, []byte{1, 1}, 0},
		{[]byte{0, 0, 1}, []byte{9, 8, 7}, 7},
		{nil, nil, 0},
		{[]byte{}, []byte{1}, 0},
		{[]byte{1}, nil, 0},
		{nil, []byte{1, 2, 3}, 0},
		{[]byte{1, 2}, []byte{3}, 3},
		{[]byte{1}, []byte{3, 4}, 3},
		{[]byte{1, 2, 99, 100}, []byte{3, 4}, 11},
		{[]byte{1, 2}, []byte{3, 4, 99, 100}, 11},
	} {
		if got := Dot(c.a, c.b); got != c.want {
			t.Errorf("Dot(%v, %v): %d, want %d", c.a, c.b, got, c.want)
		}
	}
}

func TestDotOfLongRows(t *testing.T) {
	a, b := make([]byte, 70000), make([]byte, 65537)
	var want byte
	for i := range a {
		a[i] = byte(i*7 + i>>8)
	}
	for i := range b {
		b[i] = byte(i*13 + i>>9 + 1)
		want ^= gf.Mul(a[i], b[i])
	}
	if got := Dot(a, b); got != want {
		t.Errorf("%d, want %d", got, want)
	}
	if got := Dot(b, a); got != want {
		t.Errorf("reversed: %d, want %d", got, want)
	}
}

func TestDotLooksAtNoSpareElements(t *testing.T) {
	long := []byte{1, 2, 50, 60}
	if got := Dot(long[:2], []byte{3, 4, 5, 6}); got != 11 {
		t.Error(got)
	}
	if got := Dot([]byte{3, 4, 5, 6}, long[:2]); got != 11 {
		t.Error(got)
	}
	if !bytes.Equal(long, []byte{1, 2, 50, 60}) {
		t.Error("argument modified:", long)
	}
}

// plainMul multiplies element by element, to hold Mul against.
func plainMul(t *testing.T, a, b *Mat) *Mat {
	t.Helper()
	rows, inner := a.Size()
	_, cols := b.Size()
	p, e := New(rows, cols)
	if e != api.OK {
		t.Fatal(e)
	}
	for i := range rows {
		for k := range cols {
			for j := range inner {
				p.Set(i, k, p.At(i, k)^gf.Mul(a.At(i, j), b.At(j, k)))
			}
		}
	}
	return p
}

func TestMulExamples(t *testing.T) {
	a := of(t, []byte{1, 2}, []byte{3, 4})
	b := of(t, []byte{5, 6}, []byte{7, 8})
	p, e := Mul(a, b)
	if e != api.OK {
		t.Fatal(e)
	}
	check(t, "a times b", p, []byte{5 ^ 14, 6 ^ 16}, []byte{15 ^ 28, 10 ^ 32})
	if q, e := Mul(b, a); e != api.OK || Same(p, q) || !Same(q, plainMul(t, b, a)) {
		t.Error("b times a:", q, e)
	}
	p, e = Mul(of(t, []byte{1, 2}), of(t, []byte{3}, []byte{4}))
	if e != api.OK {
		t.Fatal(e)
	}
	check(t, "a row times a column", p, []byte{11})
	p, e = Mul(of(t, []byte{3}, []byte{2}), of(t, []byte{7, 128, 0}))
	if e != api.OK {
		t.Fatal(e)
	}
	check(t, "a column times a row", p, []byte{9, gf.Mul(3, 128), 0}, []byte{14, 29, 0})
}

func TestMulOfManySizes(t *testing.T) {
	sizes := []int{1, 2, 3, 7, 64}
	for _, rows := range sizes {
		for _, inner := range sizes {
			for _, cols := range sizes {
				a, b := mixed(t, rows, inner, 11), mixed(t, inner, cols, 22)
				if p, e := Mul(a, b); e != api.OK || !Same(p, plainMul(t, a, b)) {
					t.Errorf("%d rows, %d between, %d columns: %d, wrong product", rows, inner, cols, e)
				}
			}
		}
	}
}

func TestMulOfSizesThatDoNotFit(t *testing.T) {
	for _, c := range [][4]int{
		{2, 3, 2, 3}, {3, 2, 3, 2}, {1, 2, 1, 2}, {1, 1, 2, 1}, {1, 2, 1, 1}, {2, 2, 3, 2}, {2, 3, 2, 2}, {64, 64, 63, 64}, {64, 63, 64, 64}, {2, 3, 4, 2},
	} {
		a, b := mixed(t, c[0], c[1], 3), mixed(t, c[2], c[3], 4)
		p, e := Mul(a, b)
		refused(t, "Mul", p, e)
	}
}

func TestMulKeepsMemoryApart(t *testing.T) {
	a, _ := One(2)
	p, _ := Mul(a, a)
	p.Set(0, 1, 9)
	check(t, "a factor after a change to the product", a, []byte{1, 0}, []byte{0, 1})
	b := of(t, []byte{5, 6}, []byte{7, 8})
	one, _ := One(2)
	left, _ := Mul(one, b)
	right, _ := Mul(b, one)
	b.Set(0, 0, 99)
	one.Set(1, 1, 99)
	check(t, "one times b", left, []byte{5, 6}, []byte{7, 8})
	check(t, "b times one", right, []byte{5, 6}, []byte{7, 8})
}

func TestAdd(t *testing.T) {
	a := of(t, []byte{1, 2, 3}, []byte{4, 5, 255})
	b := of(t, []byte{3, 0, 5}, []byte{0, 5, 1})
	s, e := Add(a, b)
	if e != api.OK {
		t.Fatal(e)
	}
	check(t, "sum", s, []byte{2, 2, 6}, []byte{4, 0, 254})
	if r, e := Add(b, a); e != api.OK || !Same(r, s) {
		t.Error("sum in reverse order:", r, e)
	}
	if r, e := Add(a, a); e != api.OK {
		t.Error(e)
	} else {
		check(t, "a plus a", r, zeros(2, 3)...)
	}
	check(t, "a after all", a, []byte{1, 2, 3}, []byte{4, 5, 255})
	check(t, "b after all", b, []byte{3, 0, 5}, []byte{0, 5, 1})
}

func TestAddOfTheGreatestSize(t *testing.T) {
	a, b := mixed(t, 64, 64, 7), mixed(t, 64, 64, 8)
	s, e := Add(a, b)
	if e != api.OK {
		t.Fatal(e)
	}
	for i := range 64 {
		for k := range 64 {
			if s.At(i, k) != gf.Add(a.At(i, k), b.At(i, k)) {
				t.Fatalf("element %d, %d: %d", i, k, s.At(i, k))
			}
		}
	}
}

func TestAddOfDifferentSizes(t *testing.T) {
	for _, c := range [][4]int{
		{2, 3, 3, 2}, {3, 2, 2, 3}, {2, 3, 2, 2}, {2, 2, 2, 3}, {2, 3, 3, 3}, {3, 3, 2, 3}, {1, 6, 2, 3}, {1, 1, 64, 64}, {64, 1, 1, 64}, {8, 8, 1, 64},
	} {
		a, b := mixed(t, c[0], c[1], 3), mixed(t, c[2], c[3], 4)
		s, e := Add(a, b)
		refused(t, "Add", s, e)
	}
}

func TestAddKeepsMemoryApart(t *testing.T) {
	a := of(t, []byte{1, 2})
	zero, _ := New(1, 2)
	left, _ := Add(a, zero)
	right, _ := Add(zero, a)
	left.Set(0, 0, 9)
	right.Set(0, 1, 9)
	check(t, "a", a, []byte{1, 2})
	check(t, "zero", zero, []byte{0, 0})
	a.Set(0, 0, 7)
	zero.Set(0, 0, 7)
	check(t, "a plus zero", left, []byte{9, 2})
	check(t, "zero plus a", right, []byte{1, 9})
}

func TestPick(t *testing.T) {
	m := of(t, []byte{1, 2}, []byte{3, 4}, []byte{5, 6})
	for _, c := range []struct {
		l    []int
		want [][]byte
	}{
		{[]int{0}, [][]byte{{1, 2}}},
		{[]int{2}, [][]byte{{5, 6}}},
		{[]int{0, 1, 2}, [][]byte{{1, 2}, {3, 4}, {5, 6}}},
		{[]int{2, 0}, [][]byte{{5, 6}, {1, 2}}},
		{[]int{2, 0, 2}, [][]byte{{5, 6}, {1, 2}, {5, 6}}},
		{[]int{1, 1, 1, 1}, [][]byte{{3, 4}, {3, 4}, {3, 4}, {3, 4}}},
	} {
		l := slices.Clone(c.l)
		p, e := m.Pick(l...)
		if e != api.OK {
			t.Errorf("Pick(%v): %d", c.l, e)
			continue
		}
		check(t, "Pick", p, c.want...)
		if !slices.Equal(l, c.l) {
			t.Errorf("argument %v modified: %v", c.l, l)
		}
	}
}

func TestPickOfRowsThatDoNotExist(t *testing.T) {
	m := of(t, []byte{1, 2}, []byte{3, 4}, []byte{5, 6})
	for _, l := range [][]int{
		{-1}, {3}, {4}, {math.MinInt}, {math.MaxInt}, {1 << 32}, {1 << 62}, {0, 3}, {3, 0}, {0, -1, 1}, {0, 1, 2, 3},
	} {
		p, e := m.Pick(l...)
		refused(t, "Pick", p, e)
	}
	check(t, "after Pick of what does not exist", m, []byte{1, 2}, []byte{3, 4}, []byte{5, 6})
}

func TestPickOfTooFewOrTooMany(t *testing.T) {
	m := of(t, []byte{1, 2}, []byte{3, 4})
	p, e := m.Pick()
	refused(t, "Pick()", p, e)
	p, e = m.Pick(make([]int, 65)...)
	refused(t, "Pick of 65 rows", p, e)
	p, e = m.Pick(make([]int, 1000)...)
	refused(t, "Pick of 1000 rows", p, e)
	p, e = m.Pick(make([]int, 64)...)
	if e != api.OK {
		t.Fatalf("Pick of 64 rows: %d", e)
	}
	want := zeros(64, 2)
	for _, r := range want {
		copy(r, []byte{1, 2})
	}
	check(t, "Pick of 64 rows", p, want...)
}

func TestPickIsIndependent(t *testing.T) {
	m := of(t, []byte{1, 2}, []byte{3, 4})
	p, _ := m.Pick(0, 1)
	twice, _ := m.Pick(1, 1)
	m.Set(0, 0, 9)
	m.Set(1, 1, 9)
	check(t, "all rows", p, []byte{1, 2}, []byte{3, 4})
	twice.Set(0, 0, 8)
	check(t, "one row twice", twice, []byte{8, 4}, []byte{3, 4})
	check(t, "the matrix", m, []byte{9, 2}, []byte{3, 9})
}

func TestNilMatrixHasNothing(t *testing.T) {
	var m *Mat
	if r, c := m.Size(); r != 0 || c != 0 {
		t.Error("size", r, c)
	}
	for _, i := range []int{math.MinInt, -1, 0, 1, 64, math.MaxInt} {
		if r := m.Row(i); len(r) != 0 {
			t.Errorf("Row(%d): %v", i, r)
		}
		for _, k := range []int{math.MinInt, -1, 0, 1, 64, math.MaxInt} {
			if x, e := m.At(i, k), m.Set(i, k, 1); x != 0 || e != api.ErrArg {
				t.Errorf("element %d, %d: At %d, Set %d", i, k, x, e)
			}
		}
	}
	if m.Copy() != nil || m.Turned() != nil {
		t.Error("a copy or transpose of a nil matrix")
	}
}

func TestNilMatrixInCalls(t *testing.T) {
	var m *Mat
	for _, l := range [][]int{nil, {0}, {-1}, {0, 0}, {64}} {
		p, e := m.Pick(l...)
		refused(t, "Pick of a nil matrix", p, e)
	}
	a := of(t, []byte{1})
	for _, c := range [][2]*Mat{{nil, nil}, {nil, a}, {a, nil}} {
		p, e := Mul(c[0], c[1])
		refused(t, "Mul with a nil matrix", p, e)
		p, e = Add(c[0], c[1])
		refused(t, "Add with a nil matrix", p, e)
	}
}

// P3.4

// triples are sizes of three matrices that can be multiplied one after the other.
func triples() [][4]int {
	return [][4]int{
		{1, 1, 1, 1}, {2, 2, 2, 2}, {1, 2, 3, 4}, {4, 3, 2, 1}, {3, 1, 3, 1}, {1, 5, 1, 5}, {7, 8, 9, 10}, {16, 16, 16, 16},
		{1, 64, 1, 64}, {64, 1, 64, 1}, {64, 2, 3, 64}, {64, 64, 64, 64},
	}
}

func TestTransposeOfAProduct(t *testing.T) {
	for _, c := range triples() {
		for seed := range uint32(5) {
			a, b := mixed(t, c[0], c[1], seed), mixed(t, c[1], c[2], seed+100)
			p, e := Mul(a, b)
			q, f := Mul(b.Turned(), a.Turned())
			if e != api.OK || f != api.OK || !Same(p.Turned(), q) {
				t.Errorf("sizes %v, seed %d: %d, %d", c, seed, e, f)
			}
		}
	}
}

func TestProductsAreAssociative(t *testing.T) {
	for _, c := range triples() {
		for seed := range uint32(5) {
			a, b, d := mixed(t, c[0], c[1], seed), mixed(t, c[1], c[2], seed+100), mixed(t, c[2], c[3], seed+200)
			ab, _ := Mul(a, b)
			bd, _ := Mul(b, d)
			left, e := Mul(ab, d)
			right, f := Mul(a, bd)
			if e != api.OK || f != api.OK || !Same(left, right) {
				t.Errorf("sizes %v, seed %d: %d, %d", c, seed, e, f)
			}
		}
	}
}

func TestCallsChangeNoMatrix(t *testing.T) {
	a, b := mixed(t, 3, 3, 1), mixed(t, 3, 3, 2)
	c, d := a.Copy(), b.Copy()
	Mul(a, b)
	Add(a, b)
	Same(a, b)
	a.Turned()
	a.Copy().Set(0, 0, 1)
	a.Pick(2, 1, 0)
	a.Pick(2, 3)
	Mul(a, nil)
	if !Same(a, c) || !Same(b, d) {
		t.Error("a matrix has changed:", a, b)
	}
}
