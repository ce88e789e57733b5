package solve

import (
	"bytes"
	"testing"

	"coldframe/api"
	"coldframe/gf"
	"coldframe/mat"
)

// of makes a matrix of rows that are known to be fit.
func of(t *testing.T, rows ...[]byte) *mat.Mat {
	t.Helper()
	m, e := mat.Of(rows...)
	if e != api.OK {
		t.Fatalf("Of(%v): %d", rows, e)
	}
	return m
}

// blank makes a matrix of zeros of a size that is known to be fit.
func blank(t *testing.T, rows, cols int) *mat.Mat {
	t.Helper()
	m, e := mat.New(rows, cols)
	if e != api.OK {
		t.Fatalf("New(%d, %d): %d", rows, cols, e)
	}
	return m
}

// one makes an identity matrix of a size that is known to be fit.
func one(t *testing.T, n int) *mat.Mat {
	t.Helper()
	m, e := mat.One(n)
	if e != api.OK {
		t.Fatalf("One(%d): %d", n, e)
	}
	return m
}

// times multiplies matrices that are known to fit.
func times(t *testing.T, a, b *mat.Mat) *mat.Mat {
	t.Helper()
	p, e := mat.Mul(a, b)
	if e != api.OK {
		t.Fatalf("Mul: %d", e)
	}
	return p
}

// dice makes numbers that look as if they were random; the seed tells which.
type dice uint32

// below returns a number from 0 to n - 1.
func (d *dice) below(n int) int {
	*d = *d*1664525 + 1013904223
	return int(*d>>16) % n
}

// unit returns an element that is not 0.
func (d *dice) unit() byte {
	return byte(1 + d.below(255))
}

// mixed makes a matrix; of each of its elements, zeros of 8 throws make a 0.
func (d *dice) mixed(t *testing.T, rows, cols, zeros int) *mat.Mat {
	t.Helper()
	m := blank(t, rows, cols)
	for i := range rows {
		for k := range cols {
			if d.below(8) >= zeros {
				m.Set(i, k, byte(d.below(256)))
			}
		}
	}
	return m
}

// lower makes a matrix with zeros above the diagonal and units on it, so that no row is a sum of multiples of others.
func (d *dice) lower(t *testing.T, n int) *mat.Mat {
	t.Helper()
	m := d.mixed(t, n, n, 2)
	for i := range n {
		for k := range n {
			if k > i {
				m.Set(i, k, 0)
			}
		}
		m.Set(i, i, d.unit())
	}
	return m
}

// regular makes a square matrix that is known to have an inverse: a product of triangular ones, with its rows shuffled.
func (d *dice) regular(t *testing.T, n int) *mat.Mat {
	t.Helper()
	order := make([]int, n)
	for i := range order {
		order[i] = i
	}
	for i := range order {
		k := d.below(n)
		order[i], order[k] = order[k], order[i]
	}
	m, e := times(t, d.lower(t, n), d.lower(t, n).Turned()).Pick(order...)
	if e != api.OK {
		t.Fatalf("Pick(%v): %d", order, e)
	}
	return m
}

// singular makes a square matrix of a rank below its size: a product with too few between.
func (d *dice) singular(t *testing.T, n int) *mat.Mat {
	t.Helper()
	if n == 1 {
		return blank(t, 1, 1)
	}
	between := 1 + d.below(n-1)
	return times(t, d.mixed(t, n, between, 1), d.mixed(t, between, n, 1))
}

// dependent makes a matrix of the rank n - 1: its last row is the sum of two others.
func (d *dice) dependent(t *testing.T, n int) *mat.Mat {
	t.Helper()
	m := d.regular(t, n)
	for k := range n {
		m.Set(n-1, k, m.At(n-2, k)^m.At(0, k))
	}
	return m
}

// stepped makes a matrix in reduced row echelon form whose rank is as given.
func (d *dice) stepped(t *testing.T, rows, cols, rank int) *mat.Mat {
	t.Helper()
	m := blank(t, rows, cols)
	row, lead := 0, make([]bool, cols)
	for k := range cols {
		// A column is chosen with a chance that makes all choices of rank columns possible.
		if d.below(cols-k) < rank-row {
			m.Set(row, k, 1)
			lead[k] = true
			row++
		}
		for i := range row {
			if !lead[k] && d.below(4) > 0 {
				m.Set(i, k, byte(d.below(256)))
			}
		}
	}
	if row != rank {
		t.Fatalf("%d rows are not zero, want %d", row, rank)
	}
	return m
}

// same holds a result against the matrix that it should be.
func same(t *testing.T, what string, m *mat.Mat, e api.Errno, want *mat.Mat) {
	t.Helper()
	if e != api.OK || m == nil || !mat.Same(m, want) {
		t.Errorf("%s: %v, %d, want %v", what, m, e, want)
	}
}

// refused holds a result against nil and an error.
func refused(t *testing.T, what string, m *mat.Mat, e, want api.Errno) {
	t.Helper()
	if m != nil || e != want {
		t.Errorf("%s: %v, %d, want nil and %d", what, m, e, want)
	}
}

// sizes are the sizes of squares to try.
func sizes() []int {
	return []int{1, 2, 3, 4, 5, 7, 8, 13, 16, 33, 63, 64}
}

// oblongs are sizes, of rows and columns, of matrices that are not square.
func oblongs() [][2]int {
	return [][2]int{{1, 2}, {2, 1}, {2, 3}, {3, 2}, {1, 64}, {64, 1}, {63, 64}, {64, 63}, {5, 9}, {9, 5}}
}

// P4.1

func TestStepsByHand(t *testing.T) {
	for _, c := range []struct {
		what    string
		m, want [][]byte
		rank    int
	}{
		{"an element 0", [][]byte{{0}}, [][]byte{{0}}, 0},
		{"an element 1", [][]byte{{1}}, [][]byte{{1}}, 1},
		{"an element 255", [][]byte{{255}}, [][]byte{{1}}, 1},
		{"one row", [][]byte{{2, 4, 6}}, [][]byte{{1, 2, 3}}, 1},
		{"one row that begins with zeros", [][]byte{{0, 0, 2, 0, 6}}, [][]byte{{0, 0, 1, 0, 3}}, 1},
		{"one column", [][]byte{{0}, {7}, {9}}, [][]byte{{1}, {0}, {0}}, 1},
		{"zeros", [][]byte{{0, 0, 0}, {0, 0, 0}}, [][]byte{{0, 0, 0}, {0, 0, 0}}, 0},
		{"a square", [][]byte{{1, 2}, {3, 4}}, [][]byte{{1, 0}, {0, 1}}, 2},
		{"equal rows", [][]byte{{1, 2}, {1, 2}}, [][]byte{{1, 2}, {0, 0}}, 1},
		{"a row and its double", [][]byte{{1, 128}, {2, 29}}, [][]byte{{1, 128}, {0, 0}}, 1},
		{"equal columns", [][]byte{{1, 1}, {2, 2}}, [][]byte{{1, 1}, {0, 0}}, 1},
		{"rows in reverse order", [][]byte{{0, 0, 3}, {0, 2, 0}, {5, 0, 0}}, [][]byte{{1, 0, 0}, {0, 1, 0}, {0, 0, 1}}, 3},
		{"rows of zeros before others", [][]byte{{0, 0}, {0, 3}, {0, 0}, {1, 0}}, [][]byte{{1, 0}, {0, 1}, {0, 0}, {0, 0}}, 2},
		{"a first column of zeros", [][]byte{{0, 2, 4}, {0, 1, 3}}, [][]byte{{0, 1, 0}, {0, 0, 1}}, 2},
		{"a column of zeros between", [][]byte{{1, 0, 1}, {1, 0, 2}}, [][]byte{{1, 0, 0}, {0, 0, 1}}, 2},
		{"a column without a leader", [][]byte{{1, 2, 5}, {1, 2, 6}}, [][]byte{{1, 2, 0}, {0, 0, 1}}, 2},
		{"more columns than rows", [][]byte{{1, 0, 1, 1}, {1, 1, 0, 0}}, [][]byte{{1, 0, 1, 1}, {0, 1, 1, 1}}, 2},
		{"more rows than columns", [][]byte{{1, 1}, {1, 0}, {0, 1}}, [][]byte{{1, 0}, {0, 1}, {0, 0}}, 2},
		{"a row that is the sum of two", [][]byte{{1, 0, 7}, {0, 1, 8}, {1, 1, 15}}, [][]byte{{1, 0, 7}, {0, 1, 8}, {0, 0, 0}}, 2},
	} {
		m := of(t, c.m...)
		s, e := Steps(m)
		same(t, c.what, s, e, of(t, c.want...))
		if r := Rank(m); r != c.rank {
			t.Errorf("Rank of %s: %d, want %d", c.what, r, c.rank)
		}
	}
}

// TestStepsFindsTheForm multiplies a form by a matrix with an inverse, which leaves the space that the rows span.
func TestStepsFindsTheForm(t *testing.T) {
	d := dice(1)
	for _, size := range append(oblongs(), [2]int{1, 1}, [2]int{2, 2}, [2]int{3, 3}, [2]int{8, 8}, [2]int{64, 64}) {
		rows, cols := size[0], size[1]
		most := min(rows, cols)
		for _, rank := range []int{0, min(1, most), most / 2, most - 1, most} {
			want := d.stepped(t, rows, cols, rank)
			m := times(t, d.regular(t, rows), want)
			s, e := Steps(m)
			same(t, "Steps", s, e, want)
			if r := Rank(m); r != rank {
				t.Errorf("size %v: rank %d, want %d", size, r, rank)
			}
		}
	}
}

// TestStepsOfSmallMatrices tries many choices of leading columns and of rows that are swapped.
func TestStepsOfSmallMatrices(t *testing.T) {
	d := dice(2)
	for range 3000 {
		rows, cols := 1+d.below(5), 1+d.below(5)
		rank := d.below(min(rows, cols) + 1)
		want := d.stepped(t, rows, cols, rank)
		m := times(t, d.regular(t, rows), want)
		s, e := Steps(m)
		same(t, "Steps", s, e, want)
		if r := Rank(m); r != rank {
			t.Fatalf("rank of %v: %d, want %d", m, r, rank)
		}
	}
}

func TestStepsOfStepsIsTheSame(t *testing.T) {
	d := dice(3)
	for _, size := range append(oblongs(), [2]int{6, 6}) {
		m := d.mixed(t, size[0], size[1], 6)
		s, _ := Steps(m)
		again, e := Steps(s)
		same(t, "Steps of Steps", again, e, s)
		if Rank(s) != Rank(m) {
			t.Errorf("size %v: ranks %d and %d", size, Rank(s), Rank(m))
		}
	}
}

func TestRankIsTheNumberOfRowsOfStepsThatAreNotZero(t *testing.T) {
	d := dice(4)
	for range 2000 {
		m := d.mixed(t, 1+d.below(6), 1+d.below(6), 6)
		s, e := Steps(m)
		if e != api.OK {
			t.Fatalf("Steps of %v: %d", m, e)
		}
		rows, cols := s.Size()
		want := 0
		for i := range rows {
			if !bytes.Equal(s.Row(i), make([]byte, cols)) {
				want++
			}
		}
		if r := Rank(m); r != want {
			t.Fatalf("rank of %v: %d, want %d", m, r, want)
		}
	}
}

func TestRankOfTheTransposeIsTheSame(t *testing.T) {
	d := dice(5)
	for range 1000 {
		m := d.mixed(t, 1+d.below(8), 1+d.below(8), 6)
		if Rank(m) != Rank(m.Turned()) {
			t.Fatalf("rank of %v: %d, turned %d", m, Rank(m), Rank(m.Turned()))
		}
	}
}

func TestStepsAndRankOfNil(t *testing.T) {
	s, e := Steps(nil)
	refused(t, "Steps of nil", s, e, api.ErrArg)
	if r := Rank(nil); r != 0 {
		t.Error("Rank of nil:", r)
	}
}

// P4.2

func TestSolveByHand(t *testing.T) {
	a := of(t, []byte{1, 2}, []byte{3, 4}) // its determinant is 2
	x, e := Solve(a, of(t, []byte{1}, []byte{3}))
	same(t, "the first column", x, e, of(t, []byte{1}, []byte{0}))
	x, e = Solve(a, of(t, []byte{2, 3}, []byte{4, 7}))
	same(t, "the second column, and the sum of both", x, e, of(t, []byte{0, 1}, []byte{1, 1}))
	x, e = Solve(of(t, []byte{0, 1}, []byte{1, 0}), of(t, []byte{5, 6, 7}, []byte{8, 9, 10}))
	same(t, "rows to be swapped", x, e, of(t, []byte{8, 9, 10}, []byte{5, 6, 7}))
	x, e = Solve(of(t, []byte{2}), of(t, []byte{29, 0, 6}))
	same(t, "one element", x, e, of(t, []byte{128, 0, 3}))
}

func TestSolveFindsTheFactor(t *testing.T) {
	d := dice(6)
	for _, n := range sizes() {
		for _, cols := range []int{1, 2, n, 64} {
			a, want := d.regular(t, n), d.mixed(t, n, cols, 1)
			x, e := Solve(a, times(t, a, want))
			same(t, "Solve", x, e, want)
		}
	}
}

func TestSolveOfSmallMatrices(t *testing.T) {
	d := dice(7)
	for range 3000 {
		n := 1 + d.below(5)
		a, want := d.regular(t, n), d.mixed(t, n, 1+d.below(3), 2)
		x, e := Solve(a, times(t, a, want))
		same(t, "Solve", x, e, want)
	}
}

func TestSolveMultipliesFromTheLeft(t *testing.T) {
	d := dice(8)
	a, b := d.regular(t, 4), d.regular(t, 4)
	x, e := Solve(a, b)
	if e != api.OK || !mat.Same(times(t, a, x), b) || mat.Same(times(t, x, a), b) {
		t.Error("Solve:", x, e)
	}
}

func TestSolveForZerosAndForItself(t *testing.T) {
	d := dice(9)
	for _, n := range sizes() {
		a := d.regular(t, n)
		x, e := Solve(a, blank(t, n, 3))
		same(t, "Solve for zeros", x, e, blank(t, n, 3))
		x, e = Solve(a, a)
		same(t, "Solve for a itself", x, e, one(t, n))
	}
}

func TestSolveOfSizesThatDoNotFit(t *testing.T) {
	d := dice(10)
	for _, size := range oblongs() {
		a := d.mixed(t, size[0], size[1], 0)
		for _, rows := range []int{1, size[0], size[1], 64} {
			x, e := Solve(a, blank(t, rows, 1))
			refused(t, "a is not square", x, e, api.ErrArg)
			x, e = Solve(blank(t, size[0], size[1]), blank(t, rows, 1))
			refused(t, "a is not square, and zero", x, e, api.ErrArg)
		}
	}
	for _, c := range [][3]int{{1, 2, 1}, {2, 1, 2}, {2, 3, 2}, {3, 2, 3}, {3, 4, 1}, {64, 63, 64}, {63, 64, 63}, {1, 64, 1}, {64, 1, 64}} {
		x, e := Solve(d.regular(t, c[0]), blank(t, c[1], c[2]))
		refused(t, "b has too few or too many rows", x, e, api.ErrArg)
		x, e = Solve(blank(t, c[0], c[0]), blank(t, c[1], c[2]))
		refused(t, "b has too few or too many rows, and a is singular", x, e, api.ErrArg)
	}
}

func TestSolveWithNil(t *testing.T) {
	good, zero, wide := one(t, 2), blank(t, 2, 2), blank(t, 1, 2)
	for _, c := range [][2]*mat.Mat{{nil, nil}, {nil, good}, {good, nil}, {zero, nil}, {wide, nil}, {nil, wide}} {
		x, e := Solve(c[0], c[1])
		refused(t, "Solve with nil", x, e, api.ErrArg)
	}
}

// irregular are square matrices whose rank is less than their size.
func irregular(t *testing.T) []*mat.Mat {
	l := []*mat.Mat{
		of(t, []byte{0}),
		of(t, []byte{1, 2}, []byte{1, 2}),
		of(t, []byte{1, 1}, []byte{2, 2}),
		of(t, []byte{1, 128}, []byte{2, 29}),
		of(t, []byte{0, 0}, []byte{1, 2}),
		of(t, []byte{1, 2}, []byte{0, 0}),
		of(t, []byte{0, 1}, []byte{0, 2}),
		of(t, []byte{1, 0}, []byte{2, 0}),
		of(t, []byte{1, 0, 7}, []byte{0, 1, 8}, []byte{1, 1, 15}),
		of(t, []byte{1, 0, 0}, []byte{0, 0, 0}, []byte{0, 0, 1}),
		of(t, []byte{1, 2, 5}, []byte{1, 2, 6}, []byte{0, 0, 9}),
	}
	d := dice(11)
	for _, n := range sizes() {
		l = append(l, blank(t, n, n), d.singular(t, n))
		m := one(t, n)
		m.Set(n-1, n-1, 0)
		l = append(l, m)
		if n > 2 {
			l = append(l, d.dependent(t, n))
		}
	}
	return l
}

func TestSolveOfSingularMatrices(t *testing.T) {
	for _, a := range irregular(t) {
		n, _ := a.Size()
		if r := Rank(a); r >= n {
			t.Errorf("rank of %v: %d", a, r)
		}
		// Equations with many solutions are refused like those with none.
		for _, b := range []*mat.Mat{blank(t, n, 1), blank(t, n, 64), a, one(t, n)} {
			x, e := Solve(a, b)
			refused(t, "Solve", x, e, api.ErrSingular)
		}
		x, e := Invert(a)
		refused(t, "Invert", x, e, api.ErrSingular)
	}
}

func TestInvertByHand(t *testing.T) {
	x, e := Invert(of(t, []byte{2}))
	same(t, "an element", x, e, of(t, []byte{142})) // 2 times 142 is 11C hex, and 11D hex is the modulus
	x, e = Invert(of(t, []byte{0, 1}, []byte{1, 0}))
	same(t, "a swap", x, e, of(t, []byte{0, 1}, []byte{1, 0}))
	x, e = Invert(of(t, []byte{1, 5}, []byte{0, 1}))
	same(t, "a row added", x, e, of(t, []byte{1, 5}, []byte{0, 1}))
	x, e = Invert(of(t, []byte{0, 1, 0}, []byte{0, 0, 1}, []byte{1, 0, 0}))
	same(t, "a rotation", x, e, of(t, []byte{0, 0, 1}, []byte{1, 0, 0}, []byte{0, 1, 0}))
}

func TestInvertOfEveryElement(t *testing.T) {
	for x := 1; x < 256; x++ {
		want, _ := gf.Inv(byte(x))
		i, e := Invert(of(t, []byte{byte(x)}))
		same(t, "Invert", i, e, of(t, []byte{want}))
	}
}

func TestInvertGivesOneFromBothSides(t *testing.T) {
	d := dice(12)
	for _, n := range sizes() {
		for range 5 {
			a := d.regular(t, n)
			x, e := Invert(a)
			if e != api.OK {
				t.Fatalf("size %d: %d", n, e)
			}
			same(t, "a times its inverse", times(t, a, x), e, one(t, n))
			same(t, "the inverse times a", times(t, x, a), e, one(t, n))
			back, e := Invert(x)
			same(t, "the inverse of the inverse", back, e, a)
		}
	}
}

func TestInvertIsSolveForOne(t *testing.T) {
	d := dice(13)
	for range 500 {
		n := 1 + d.below(6)
		a := d.mixed(t, n, n, 4)
		x, e := Solve(a, one(t, n))
		y, f := Invert(a)
		if e != f || !mat.Same(x, y) {
			t.Fatalf("%v: Solve %v, %d, Invert %v, %d", a, x, e, y, f)
		}
	}
}

func TestInvertOfWhatIsNotSquare(t *testing.T) {
	d := dice(14)
	for _, size := range oblongs() {
		x, e := Invert(d.mixed(t, size[0], size[1], 0))
		refused(t, "Invert", x, e, api.ErrArg)
		x, e = Invert(blank(t, size[0], size[1]))
		refused(t, "Invert of zeros", x, e, api.ErrArg)
	}
	x, e := Invert(nil)
	refused(t, "Invert of nil", x, e, api.ErrArg)
}

// P4.3

// isDet holds Det against a determinant.
func isDet(t *testing.T, what string, a *mat.Mat, want byte) {
	t.Helper()
	if d, e := Det(a); e != api.OK || d != want {
		t.Errorf("%s: Det of %v is %d, %d, want %d", what, a, d, e, want)
	}
}

// plainDet adds the products of all ways to select elements of the rows from i on, in columns that are not taken.
func plainDet(a *mat.Mat, i int, taken uint) byte {
	n, _ := a.Size()
	if i == n {
		return 1
	}
	var sum byte
	for k := range n {
		if taken>>k&1 == 0 {
			sum ^= gf.Mul(a.At(i, k), plainDet(a, i+1, taken|1<<k))
		}
	}
	return sum
}

func TestDetByHand(t *testing.T) {
	isDet(t, "the document's example", of(t, []byte{1, 2}, []byte{3, 4}), 2)
	isDet(t, "swapped rows", of(t, []byte{3, 4}, []byte{1, 2}), 2)
	isDet(t, "swapped columns", of(t, []byte{2, 1}, []byte{4, 3}), 2)
	isDet(t, "a product that is reduced", of(t, []byte{2, 0}, []byte{0, 128}), 29)
	isDet(t, "0 at the first place", of(t, []byte{0, 3}, []byte{7, 5}), 9)
	isDet(t, "equal products", of(t, []byte{6, 6}, []byte{6, 6}), 0)
	isDet(t, "three rows with one way", of(t, []byte{0, 2, 0}, []byte{0, 0, 128}, []byte{3, 0, 0}), 39) // 3 times 29
}

func TestDetOfEveryElement(t *testing.T) {
	for x := range 256 {
		isDet(t, "one element", of(t, []byte{byte(x)}), byte(x))
	}
}

func TestDetOfTwoRows(t *testing.T) {
	l := []byte{0, 1, 2, 3, 29, 128, 142, 255}
	for i := range len(l) * len(l) * len(l) * len(l) {
		a, b, c, d := l[i%8], l[i/8%8], l[i/64%8], l[i/512]
		isDet(t, "two rows", of(t, []byte{a, b}, []byte{c, d}), gf.Mul(a, d)^gf.Mul(b, c))
	}
}

func TestDetIsTheSumOverAllWays(t *testing.T) {
	d := dice(15)
	for n := 1; n <= 6; n++ {
		for zeros := range 8 {
			for range 30 {
				a := d.mixed(t, n, n, zeros)
				isDet(t, "mixed", a, plainDet(a, 0, 0))
			}
		}
		a := d.regular(t, n)
		isDet(t, "regular", a, plainDet(a, 0, 0))
	}
}

func TestDetOfTriangularMatrices(t *testing.T) {
	d := dice(16)
	for _, n := range sizes() {
		a := d.lower(t, n)
		want := byte(1)
		for i := range n {
			want = gf.Mul(want, a.At(i, i))
		}
		isDet(t, "lower", a, want)
		isDet(t, "upper", a.Turned(), want)
		order := make([]int, n)
		for i := range order {
			order[i] = n - 1 - i
		}
		reversed, _ := a.Pick(order...)
		isDet(t, "rows in reverse order", reversed, want)
	}
}

func TestDetOfSingularMatrices(t *testing.T) {
	for _, a := range irregular(t) {
		isDet(t, "singular", a, 0)
	}
}

func TestDetOfWhatIsNotSquare(t *testing.T) {
	d := dice(17)
	for _, size := range oblongs() {
		if x, e := Det(d.mixed(t, size[0], size[1], 0)); x != 0 || e != api.ErrArg {
			t.Errorf("size %v: %d, %d", size, x, e)
		}
		if x, e := Det(blank(t, size[0], size[1])); x != 0 || e != api.ErrArg {
			t.Errorf("size %v, zeros: %d, %d", size, x, e)
		}
	}
	if x, e := Det(nil); x != 0 || e != api.ErrArg {
		t.Errorf("nil: %d, %d", x, e)
	}
}

// P4.4

// squares are matrices of one size, some with an inverse and some without.
func squares(t *testing.T, d *dice, n int) []*mat.Mat {
	return []*mat.Mat{
		d.regular(t, n), d.regular(t, n), d.singular(t, n), d.mixed(t, n, n, 0), d.mixed(t, n, n, 4), d.mixed(t, n, n, 7), one(t, n), blank(t, n, n),
	}
}

func TestDetOfAProduct(t *testing.T) {
	d := dice(18)
	for _, n := range sizes() {
		l := squares(t, &d, n)
		for i, a := range l {
			for _, b := range []*mat.Mat{l[i%2], l[d.below(len(l))]} {
				x, e := Det(a)
				y, f := Det(b)
				if e != api.OK || f != api.OK {
					t.Fatalf("size %d: Det %d, %d", n, e, f)
				}
				isDet(t, "a times b", times(t, a, b), gf.Mul(x, y))
				isDet(t, "b times a", times(t, b, a), gf.Mul(y, x))
			}
		}
	}
}

func TestDetIsZeroIfAndOnlyIfThereIsNoInverse(t *testing.T) {
	d := dice(19)
	var with, without int
	for _, n := range sizes() {
		for range 3 {
			for _, a := range squares(t, &d, n) {
				x, e := Det(a)
				_, f := Invert(a)
				if e != api.OK || (x != 0) != (f == api.OK) || (x != 0) != (Rank(a) == n) {
					t.Errorf("%v: Det %d, %d, Invert %d, Rank %d", a, x, e, f, Rank(a))
				}
				if f == api.OK {
					with++
				} else if f == api.ErrSingular {
					without++
				} else {
					t.Errorf("Invert: %d", f)
				}
			}
		}
	}
	if with < 50 || without < 50 {
		t.Errorf("%d with and %d without an inverse were tried", with, without)
	}
}

func TestDetOfTheInverse(t *testing.T) {
	d := dice(20)
	for _, n := range sizes() {
		a := d.regular(t, n)
		x, _ := Det(a)
		i, e := Invert(a)
		want, f := gf.Inv(x)
		if e != api.OK || f != api.OK {
			t.Fatalf("size %d: %d, %d", n, e, f)
		}
		isDet(t, "the inverse", i, want)
	}
}

// Memory and determinism (the document's Rules)

// unchanged runs a call and holds the matrices that it is given against what they were before.
func unchanged(t *testing.T, what string, call func(), l ...*mat.Mat) {
	t.Helper()
	before := make([]*mat.Mat, len(l))
	for i, m := range l {
		before[i] = m.Copy()
	}
	call()
	for i, m := range l {
		if !mat.Same(m, before[i]) {
			t.Errorf("%s has changed argument %d: %v, want %v", what, i, m, before[i])
		}
	}
}

func TestCallsChangeNoArgument(t *testing.T) {
	d := dice(21)
	l := [][2]*mat.Mat{
		{d.regular(t, 3), d.mixed(t, 2, 2, 0)},                              // b does not fit
		{d.mixed(t, 3, 4, 0), d.mixed(t, 3, 2, 0)},                          // a is not square
		{of(t, []byte{0, 2}, []byte{3, 4}), of(t, []byte{5}, []byte{6})},    // rows are swapped
		{of(t, []byte{0, 0}, []byte{0, 9}), of(t, []byte{5}, []byte{6})},    // singular
		{of(t, []byte{7}), of(t, []byte{5, 6, 7})},                          // one element
		{d.mixed(t, 4, 3, 0), d.mixed(t, 4, 3, 0)},                          // more rows than columns
		{one(t, 3), d.mixed(t, 3, 3, 0)},                                    // nothing to do
		{d.singular(t, 64), d.mixed(t, 64, 64, 0)},                          // the greatest size
		{d.regular(t, 64), d.mixed(t, 64, 64, 0)},                           // the greatest size, regular
		{d.regular(t, 5), nil}, {d.regular(t, 5), d.regular(t, 5).Turned()}, // no b, and a square one
	}
	for _, c := range l {
		a, b := c[0], c[1]
		unchanged(t, "Rank", func() { Rank(a) }, a, b)
		unchanged(t, "Steps", func() { Steps(a) }, a, b)
		unchanged(t, "Solve", func() { Solve(a, b) }, a, b)
		unchanged(t, "Solve of b and a", func() { Solve(b, a) }, a, b)
		unchanged(t, "Solve of a and a", func() { Solve(a, a) }, a, b)
		unchanged(t, "Invert", func() { Invert(a) }, a, b)
		unchanged(t, "Det", func() { Det(a) }, a, b)
	}
}

// apart reports a result that shares memory with an argument, by changing all elements of one and then of the other.
func apart(t *testing.T, what string, result, argument *mat.Mat) {
	t.Helper()
	for _, c := range [][2]*mat.Mat{{result, argument}, {argument, result}} {
		before := c[1].Copy()
		rows, cols := c[0].Size()
		for i := range rows {
			for k := range cols {
				c[0].Set(i, k, c[0].At(i, k)^255)
			}
		}
		if !mat.Same(c[1], before) {
			t.Errorf("%s shares memory with an argument", what)
		}
	}
}

func TestResultsAreApartFromArguments(t *testing.T) {
	d := dice(22)
	for _, n := range []int{1, 2, 5} {
		// The identity matrix is its own form and inverse, and leaves b as it is.
		a := one(t, n)
		s, _ := Steps(a)
		apart(t, "Steps", s, a)
		a = one(t, n)
		i, _ := Invert(a)
		apart(t, "Invert", i, a)
		a, b := one(t, n), d.mixed(t, n, n, 0)
		x, _ := Solve(a, b)
		apart(t, "Solve", x, b)
		x, _ = Solve(a, one(t, n))
		apart(t, "Solve", x, a)
		zero := blank(t, n, n+1)
		s, _ = Steps(zero)
		apart(t, "Steps of zeros", s, zero)
	}
}

func TestResultsAreApartFromEachOther(t *testing.T) {
	d := dice(23)
	a := d.regular(t, 3)
	for _, call := range []func() (*mat.Mat, api.Errno){
		func() (*mat.Mat, api.Errno) { return Steps(a) },
		func() (*mat.Mat, api.Errno) { return Invert(a) },
		func() (*mat.Mat, api.Errno) { return Solve(a, a) },
	} {
		first, e := call()
		second, f := call()
		if e != api.OK || f != api.OK || !mat.Same(first, second) {
			t.Errorf("two calls differ: %v, %d and %v, %d", first, e, second, f)
		}
		apart(t, "a result and the next one", first, second)
	}
}

func TestRowsOfAResultAreApart(t *testing.T) {
	zero := blank(t, 3, 2)
	s, e := Steps(zero)
	if e != api.OK {
		t.Fatal(e)
	}
	s.Set(1, 0, 7)
	same(t, "one element set", s, api.OK, of(t, []byte{0, 0}, []byte{7, 0}, []byte{0, 0}))
}
