package vand

import (
	"bytes"
	"math"
	"testing"

	"coldframe/api"
	"coldframe/gf"
	"coldframe/mat"
	"coldframe/solve"
)

// dice makes numbers that look as if they were random; the seed tells which.
type dice uint32

// below returns a number from 0 to n - 1.
func (d *dice) below(n int) int {
	*d = *d*1664525 + 1013904223
	return int(*d>>16) % n
}

// list makes n elements, of which some may be equal.
func (d *dice) list(n int) []byte {
	l := make([]byte, n)
	for i := range l {
		l[i] = byte(d.below(256))
	}
	return l
}

// points makes n elements, of which no two are equal; n is at most 256.
func (d *dice) points(n int) []byte {
	l := upTo(256)
	for i := range l {
		k := d.below(256)
		l[i], l[k] = l[k], l[i]
	}
	return l[:n:n]
}

// upTo makes the elements from 0 to n - 1.
func upTo(n int) []byte {
	l := make([]byte, n)
	for i := range l {
		l[i] = byte(i)
	}
	return l
}

// power multiplies factor by factor, to hold results against.
func power(x byte, n int) byte {
	p := byte(1)
	for range n {
		p = gf.Mul(p, x)
	}
	return p
}

// sumOfPowers is the value of a polynomial, term by term, to hold Value against.
func sumOfPowers(coefficients []byte, x byte) byte {
	var sum byte
	for i, c := range coefficients {
		sum = gf.Add(sum, gf.Mul(c, power(x, i)))
	}
	return sum
}

// valuesOf is the value of a polynomial at each of the points.
func valuesOf(coefficients, points []byte) []byte {
	l := make([]byte, len(points))
	for i, x := range points {
		l[i] = sumOfPowers(coefficients, x)
	}
	return l
}

// matrix makes a matrix of arguments that are known to be fit.
func matrix(t *testing.T, points []byte, n int) *mat.Mat {
	t.Helper()
	m, e := Matrix(points, n)
	if e != api.OK || m == nil {
		t.Fatalf("Matrix(%v, %d): %v, %d", points, n, m, e)
	}
	return m
}

// refusedMatrix checks that Matrix returns nil and ErrArg.
func refusedMatrix(t *testing.T, points []byte, n int) {
	t.Helper()
	if m, e := Matrix(points, n); m != nil || e != api.ErrArg {
		t.Errorf("Matrix(%v, %d): %v, %d, want nil and %d", points, n, m, e, api.ErrArg)
	}
}

// foundPoints checks that Points returns the elements wanted.
func foundPoints(t *testing.T, n, exponent int, want []byte) {
	t.Helper()
	if l, e := Points(n, exponent); e != api.OK || !bytes.Equal(l, want) {
		t.Errorf("Points(%d, %d): %v, %d, want %v", n, exponent, l, e, want)
	}
}

// refusedPoints checks that Points returns none and ErrArg.
func refusedPoints(t *testing.T, n, exponent int) {
	t.Helper()
	if l, e := Points(n, exponent); len(l) != 0 || e != api.ErrArg {
		t.Errorf("Points(%d, %d): %v, %d, want none and %d", n, exponent, l, e, api.ErrArg)
	}
}

// foundThrough checks that Through returns the coefficients wanted.
func foundThrough(t *testing.T, points, values, want []byte) {
	t.Helper()
	if l, e := Through(points, values); e != api.OK || !bytes.Equal(l, want) {
		t.Errorf("Through(%v, %v): %v, %d, want %v", points, values, l, e, want)
	}
}

// refusedThrough checks that Through returns no coefficients and ErrArg.
func refusedThrough(t *testing.T, points, values []byte) {
	t.Helper()
	if l, e := Through(points, values); len(l) != 0 || e != api.ErrArg {
		t.Errorf("Through(%v, %v): %v, %d, want none and %d", points, values, l, e, api.ErrArg)
	}
}

// P5.1

func TestRowByHand(t *testing.T) {
	for _, c := range []struct {
		x    byte
		n    int
		want []byte
	}{
		{2, 4, []byte{1, 2, 4, 8}},
		{2, 10, []byte{1, 2, 4, 8, 16, 32, 64, 128, 29, 58}},
		{3, 4, []byte{1, 3, 5, 15}},
		{1, 5, []byte{1, 1, 1, 1, 1}},
		{0, 1, []byte{1}},
		{0, 2, []byte{1, 0}},
		{0, 5, []byte{1, 0, 0, 0, 0}},
		{255, 1, []byte{1}},
		{255, 2, []byte{1, 255}},
	} {
		if got := Row(c.x, c.n); !bytes.Equal(got, c.want) {
			t.Errorf("Row(%d, %d): %v, want %v", c.x, c.n, got, c.want)
		}
	}
}

func TestRowIsThePowersOfEveryElement(t *testing.T) {
	for x := range 256 {
		row := Row(byte(x), 300)
		if len(row) != 300 {
			t.Fatalf("Row(%d, 300) has %d elements", x, len(row))
		}
		for i, p := range row {
			if p != gf.Pow(byte(x), i) || p != power(byte(x), i) {
				t.Errorf("Row(%d, 300): %d with the exponent %d, want %d", x, p, i, gf.Pow(byte(x), i))
			}
		}
	}
}

func TestRowOfEveryLength(t *testing.T) {
	long := Row(7, 600)
	for n := 1; n <= 600; n++ {
		if got := Row(7, n); !bytes.Equal(got, long[:n]) {
			t.Errorf("Row(7, %d): %v", n, got)
		}
	}
}

func TestRowOfTheGreatestLength(t *testing.T) {
	for _, x := range []byte{0, 1, 2, 255} {
		row := Row(x, 1<<16)
		if len(row) != 1<<16 {
			t.Fatalf("Row(%d, 2^16) has %d elements", x, len(row))
		}
		for _, i := range []int{0, 1, 254, 255, 256, 32767, 1<<16 - 2, 1<<16 - 1} {
			if row[i] != gf.Pow(x, i) {
				t.Errorf("Row(%d, 2^16): %d with the exponent %d, want %d", x, row[i], i, gf.Pow(x, i))
			}
		}
	}
}

func TestRowOfNoElements(t *testing.T) {
	for _, n := range []int{0, -1, -2, -64, -256, math.MinInt32, math.MinInt} {
		for _, x := range []byte{0, 1, 5, 255} {
			if got := Row(x, n); len(got) != 0 {
				t.Errorf("Row(%d, %d): %v", x, n, got)
			}
		}
	}
}

// The chapter says nothing of what these return; they are to end without a panic.
func TestRowOfMoreThanMayBeAskedFor(t *testing.T) {
	for _, n := range []int{1<<16 + 1, math.MaxInt32, math.MaxInt} {
		Row(2, n)
	}
}

func TestMatrixByHand(t *testing.T) {
	for _, c := range []struct {
		points []byte
		n      int
		want   [][]byte
	}{
		{[]byte{0}, 1, [][]byte{{1}}},
		{[]byte{9}, 1, [][]byte{{1}}},
		{[]byte{0}, 3, [][]byte{{1, 0, 0}}},
		{[]byte{2}, 4, [][]byte{{1, 2, 4, 8}}},
		{[]byte{3, 1, 0}, 1, [][]byte{{1}, {1}, {1}}},
		{[]byte{0, 1, 2}, 3, [][]byte{{1, 0, 0}, {1, 1, 1}, {1, 2, 4}}},
		{[]byte{3, 2}, 4, [][]byte{{1, 3, 5, 15}, {1, 2, 4, 8}}},
		{[]byte{128, 3, 0, 2}, 2, [][]byte{{1, 128}, {1, 3}, {1, 0}, {1, 2}}},
	} {
		want, e := mat.Of(c.want...)
		if e != api.OK {
			t.Fatal(e)
		}
		if m := matrix(t, c.points, c.n); !mat.Same(m, want) {
			t.Errorf("Matrix(%v, %d): %v, want %v", c.points, c.n, m, want)
		}
	}
}

func TestMatrixOfManySizes(t *testing.T) {
	d := dice(1)
	for _, count := range []int{1, 2, 3, 24, 63, 64} {
		for _, n := range []int{1, 2, 3, 14, 63, 64} {
			points := d.points(count)
			m := matrix(t, points, n)
			if rows, cols := m.Size(); rows != count || cols != n {
				t.Fatalf("%d points and n %d: %d rows and %d columns", count, n, rows, cols)
			}
			for i, x := range points {
				if !bytes.Equal(m.Row(i), Row(x, n)) {
					t.Errorf("%v and n %d: row %d is %v, want %v", points, n, i, m.Row(i), Row(x, n))
				}
			}
		}
	}
}

func TestMatrixOfEveryPoint(t *testing.T) {
	for x := range 256 {
		m := matrix(t, []byte{byte(x)}, 64)
		if !bytes.Equal(m.Row(0), Row(byte(x), 64)) {
			t.Errorf("the point %d: %v", x, m.Row(0))
		}
	}
}

func TestMatrixOfWrongWidths(t *testing.T) {
	for _, points := range [][]byte{{0}, {1, 2}, upTo(64)} {
		for _, n := range []int{0, -1, -64, math.MinInt, 65, 66, 128, 256, 1 << 16, 1<<16 + 1, 1<<32 + 1, 1<<62 + 1, math.MaxInt} {
			refusedMatrix(t, points, n)
		}
		matrix(t, points, 1)
		matrix(t, points, 64)
	}
}

func TestMatrixOfTooFewOrTooManyPoints(t *testing.T) {
	for _, n := range []int{1, 2, 64} {
		refusedMatrix(t, nil, n)
		refusedMatrix(t, []byte{}, n)
		matrix(t, upTo(64), n)
		matrix(t, upTo(128)[64:], n)
		for _, count := range []int{65, 66, 128, 255, 256} {
			refusedMatrix(t, upTo(count), n)
		}
		refusedMatrix(t, make([]byte, 1<<20), n)
	}
	refusedMatrix(t, nil, 0)
}

func TestMatrixOfAPointThatOccursTwice(t *testing.T) {
	for _, points := range [][]byte{{0, 0}, {3, 3}, {255, 255}, {1, 2, 1}, {0, 1, 2, 0}, {5, 6, 6}, {9, 9, 9}} {
		for _, n := range []int{0, 1, 2, 3, 64, 65} {
			refusedMatrix(t, points, n)
		}
	}
	for x := range 256 {
		refusedMatrix(t, []byte{byte(x), byte(x + 1), byte(x)}, 3)
		matrix(t, []byte{byte(x), byte(x + 1), byte(x + 128)}, 3)
	}
}

func TestMatrixOfAPointThatOccursTwiceAmongMany(t *testing.T) {
	for i := range 64 {
		for k := range i {
			points := upTo(64)
			points[i] = points[k]
			refusedMatrix(t, points, 64)
		}
	}
}

// P5.2

// pointsOneByOne finds points as the chapter says it, holding each element against those found before.
func pointsOneByOne(exponent int) []byte {
	// The powers of an element repeat after 255, but for that with the exponent 0, which is not asked for.
	exponent = (exponent-1)%255 + 1
	var powers [256]byte
	for x := range 256 {
		powers[x] = power(byte(x), exponent)
	}
	var found []byte
	for x := range 256 {
		differs := true
		for _, f := range found {
			differs = differs && powers[f] != powers[x]
		}
		if differs {
			found = append(found, byte(x))
		}
	}
	return found
}

func TestPointsByHand(t *testing.T) {
	foundPoints(t, 3, 3, []byte{0, 1, 2})
	foundPoints(t, 1, 1, []byte{0})
	foundPoints(t, 5, 1, []byte{0, 1, 2, 3, 4})
	foundPoints(t, 1, 255, []byte{0})
	foundPoints(t, 2, 255, []byte{0, 1})
	foundPoints(t, 2, 510, []byte{0, 1})
	foundPoints(t, 256, 1, upTo(256))
	foundPoints(t, 256, 2, upTo(256))
	foundPoints(t, 256, 256, upTo(256))
}

// An exponent that shares a divisor with 255 leaves elements out, so that the points are not merely the first elements.
func TestPointsLeaveElementsOut(t *testing.T) {
	for _, exponent := range []int{3, 5, 15, 17, 51, 85} {
		want := pointsOneByOne(exponent)
		if bytes.Equal(want, upTo(len(want))) {
			t.Errorf("the exponent %d leaves no element out", exponent)
		}
		foundPoints(t, len(want), exponent, want)
	}
}

func TestPointsOfManyExponents(t *testing.T) {
	var exponents []int
	for e := 1; e <= 60; e++ {
		exponents = append(exponents, e)
	}
	exponents = append(exponents, 84, 85, 86, 119, 127, 128, 153, 170, 204, 238, 253, 254, 255, 256, 257, 258, 340, 509, 510, 511)
	for _, e := range exponents {
		want := pointsOneByOne(e)
		for _, n := range []int{1, 2, 3, 24, len(want) - 1, len(want)} {
			if n >= 1 && n <= len(want) {
				foundPoints(t, n, e, want[:n])
			}
		}
		refusedPoints(t, len(want)+1, e)
		refusedPoints(t, 257, e)
	}
}

func TestPointsOfEveryNumber(t *testing.T) {
	for _, e := range []int{1, 3, 7, 15, 85} {
		want := pointsOneByOne(e)
		for n := 1; n <= 300; n++ {
			if n <= len(want) {
				foundPoints(t, n, e, want[:n])
			} else {
				refusedPoints(t, n, e)
			}
		}
	}
}

// As many units as 255 divided by the greatest common divisor have different powers, and 0.
func TestPointsThatCanBeFound(t *testing.T) {
	for _, c := range [][2]int{
		{1, 256}, {2, 256}, {3, 86}, {5, 52}, {6, 86}, {7, 256}, {15, 18}, {17, 16}, {51, 6}, {85, 4}, {170, 4}, {254, 256},
		{255, 2}, {256, 256}, {510, 2}, {255 * 255, 2}, {3 << 30, 86}, {1 << 31, 256}, {255 << 40, 2}, {1 << 62, 256},
		{math.MaxInt, 256}, {math.MaxInt - 127, 2},
	} {
		exponent, most := c[0], c[1]
		if l, e := Points(most, exponent); e != api.OK || len(l) != most {
			t.Errorf("Points(%d, %d): %v, %d", most, exponent, l, e)
		}
		refusedPoints(t, most+1, exponent)
		foundPoints(t, most, exponent, pointsOneByOne(exponent))
	}
}

func TestPointsOfWrongNumbers(t *testing.T) {
	for _, wrong := range []int{0, -1, -24, math.MinInt32, math.MinInt} {
		for _, right := range []int{1, 3, 255, 256, math.MaxInt} {
			refusedPoints(t, wrong, right)
			refusedPoints(t, right, wrong)
		}
		refusedPoints(t, wrong, 0)
		refusedPoints(t, 0, wrong)
		refusedPoints(t, wrong, wrong)
	}
	for _, n := range []int{257, 258, 512, 1 << 16, math.MaxInt32, 1<<32 + 1, math.MaxInt} {
		for _, e := range []int{1, 2, 3, 255, math.MaxInt} {
			refusedPoints(t, n, e)
		}
	}
}

// P5.3

func TestValueByHand(t *testing.T) {
	for _, c := range []struct {
		coefficients []byte
		x, want      byte
	}{
		{nil, 0, 0},
		{nil, 7, 0},
		{[]byte{}, 255, 0},
		{[]byte{9}, 0, 9},
		{[]byte{9}, 200, 9},
		{[]byte{0, 1}, 77, 77},
		{[]byte{5, 1}, 2, 7},
		{[]byte{0, 2}, 128, 29},
		{[]byte{0, 0, 0, 0, 0, 0, 0, 0, 1}, 2, 29},
		{[]byte{1, 2, 3}, 2, 1 ^ 4 ^ 12},
		{[]byte{3, 2, 1}, 2, 3 ^ 4 ^ 4},
		{[]byte{6, 255, 254, 1}, 0, 6},
		{[]byte{0, 255, 254, 1}, 0, 0},
		{[]byte{1, 2, 4, 8}, 1, 15},
		{[]byte{5, 5}, 1, 0},
	} {
		if got := Value(c.coefficients, c.x); got != c.want {
			t.Errorf("Value(%v, %d): %d, want %d", c.coefficients, c.x, got, c.want)
		}
	}
}

func TestValueIsTheSumOfPowers(t *testing.T) {
	d := dice(2)
	for _, n := range []int{0, 1, 2, 3, 5, 8, 64, 65, 300} {
		coefficients := d.list(n)
		for x := range 256 {
			if got, want := Value(coefficients, byte(x)), sumOfPowers(coefficients, byte(x)); got != want {
				t.Errorf("Value(%v, %d): %d, want %d", coefficients, x, got, want)
			}
		}
	}
}

func TestValueAtZeroIsTheFirstCoefficient(t *testing.T) {
	d := dice(3)
	for c := range 256 {
		coefficients := append([]byte{byte(c)}, d.list(d.below(9))...)
		if got := Value(coefficients, 0); got != byte(c) {
			t.Errorf("Value(%v, 0): %d", coefficients, got)
		}
	}
}

func TestValueOfManyCoefficients(t *testing.T) {
	d := dice(4)
	coefficients := d.list(100000)
	for _, x := range []byte{0, 1, 2, 3, 254, 255} {
		var want byte
		for i, c := range coefficients {
			want = gf.Add(want, gf.Mul(c, gf.Pow(x, i)))
		}
		if got := Value(coefficients, x); got != want {
			t.Errorf("at %d: %d, want %d", x, got, want)
		}
	}
}

func TestThroughByHand(t *testing.T) {
	foundThrough(t, []byte{1, 5, 77, 0}, valuesOf([]byte{7, 0, 9, 200}, []byte{1, 5, 77, 0}), []byte{7, 0, 9, 200})
	foundThrough(t, []byte{0, 1}, []byte{5, 4}, []byte{5, 1})
	foundThrough(t, []byte{1, 0}, []byte{4, 5}, []byte{5, 1})
	foundThrough(t, []byte{2, 4}, []byte{2, 4}, []byte{0, 1})
	foundThrough(t, []byte{1, 2, 3}, []byte{1, 4, 5}, []byte{0, 0, 1})
	foundThrough(t, []byte{8, 9, 10}, []byte{6, 6, 6}, []byte{6, 0, 0})
	foundThrough(t, []byte{8, 9, 10}, []byte{0, 0, 0}, []byte{0, 0, 0})
}

func TestThroughASinglePoint(t *testing.T) {
	for x := range 256 {
		for _, v := range []byte{0, 1, 2, 127, 128, 255, byte(x)} {
			foundThrough(t, []byte{byte(x)}, []byte{v}, []byte{v})
		}
	}
}

// Two points determine a line: its slope is a quotient of differences.
func TestThroughTwoPoints(t *testing.T) {
	d := dice(5)
	for x := range 256 {
		for y := range 256 {
			if x == y {
				continue
			}
			v := d.list(2)
			slope, e := gf.Div(gf.Add(v[0], v[1]), gf.Add(byte(x), byte(y)))
			if e != api.OK {
				t.Fatal(e)
			}
			foundThrough(t, []byte{byte(x), byte(y)}, v, []byte{gf.Add(v[0], gf.Mul(slope, byte(x))), slope})
		}
	}
}

func TestThroughFindsThePolynomial(t *testing.T) {
	d := dice(6)
	for n := 1; n <= 64; n++ {
		for range 4 {
			points, coefficients := d.points(n), d.list(n)
			foundThrough(t, points, valuesOf(coefficients, points), coefficients)
		}
	}
}

func TestThroughGoesThroughThePoints(t *testing.T) {
	d := dice(7)
	for n := 1; n <= 64; n++ {
		for range 4 {
			points, values := d.points(n), d.list(n)
			coefficients, e := Through(points, values)
			if e != api.OK || len(coefficients) != n {
				t.Fatalf("Through(%v, %v): %v, %d", points, values, coefficients, e)
			}
			for i, x := range points {
				if Value(coefficients, x) != values[i] || sumOfPowers(coefficients, x) != values[i] {
					t.Errorf("Through(%v, %v): %v is %d at %d", points, values, coefficients, Value(coefficients, x), x)
				}
			}
		}
	}
}

// The coefficients of the highest exponents are there, also where they are 0.
func TestThroughMorePointsThanAreNeeded(t *testing.T) {
	d := dice(8)
	for _, n := range []int{2, 3, 9, 63, 64} {
		for _, used := range []int{0, 1, n - 1} {
			points, coefficients := d.points(n), make([]byte, n)
			copy(coefficients, d.list(used))
			foundThrough(t, points, valuesOf(coefficients, points), coefficients)
		}
	}
}

func TestThroughDoesNotDependOnTheOrder(t *testing.T) {
	d := dice(9)
	for _, n := range []int{2, 3, 10, 64} {
		points, values := d.points(n), d.list(n)
		want, e := Through(points, values)
		if e != api.OK {
			t.Fatal(e)
		}
		for range 10 {
			for i := range n {
				k := d.below(n)
				points[i], points[k] = points[k], points[i]
				values[i], values[k] = values[k], values[i]
			}
			foundThrough(t, points, values, want)
		}
	}
}

func TestThroughTooFewOrTooManyPoints(t *testing.T) {
	refusedThrough(t, nil, nil)
	refusedThrough(t, []byte{}, []byte{})
	refusedThrough(t, nil, []byte{1})
	for _, n := range []int{65, 66, 128, 255, 256} {
		refusedThrough(t, upTo(n), make([]byte, n))
		refusedThrough(t, upTo(n), make([]byte, 64))
	}
	refusedThrough(t, make([]byte, 1<<20), make([]byte, 1<<20))
	foundThrough(t, upTo(64), upTo(64), append([]byte{0, 1}, make([]byte, 62)...))
}

func TestThroughAnotherNumberOfValues(t *testing.T) {
	for _, n := range []int{1, 2, 3, 63, 64} {
		for _, values := range []int{0, n - 1, n + 1, 2 * n, 65, 256, 256 + n} {
			if values != n {
				refusedThrough(t, upTo(n), make([]byte, values))
			}
		}
	}
	refusedThrough(t, []byte{1}, nil)
	// Values behind the end of the slice do not count.
	refusedThrough(t, []byte{1, 2}, []byte{3, 4}[:1])
	refusedThrough(t, []byte{1, 2}[:1], []byte{3, 4})
}

func TestThroughAPointThatOccursTwice(t *testing.T) {
	for _, points := range [][]byte{{0, 0}, {1, 1}, {255, 255}, {1, 2, 1}, {0, 1, 2, 0}, {5, 6, 6}, {9, 9, 9}} {
		refusedThrough(t, points, make([]byte, len(points)))
		refusedThrough(t, points, upTo(len(points)))
		refusedThrough(t, points, points) // also where the values agree
		refusedThrough(t, points, upTo(len(points)+1))
	}
	for i := range 64 {
		for k := range i {
			points := upTo(64)
			points[i] = points[k]
			refusedThrough(t, points, points)
		}
	}
}

// P5.4

// inverted checks that a matrix of as many columns as points has an inverse.
func inverted(t *testing.T, points []byte) {
	t.Helper()
	n := len(points)
	m := matrix(t, points, n)
	inverse, e := solve.Invert(m)
	if e != api.OK {
		t.Errorf("the points %v: Invert returns %d", points, e)
		return
	}
	one, _ := mat.One(n)
	left, _ := mat.Mul(inverse, m)
	right, _ := mat.Mul(m, inverse)
	if !mat.Same(left, one) || !mat.Same(right, one) {
		t.Errorf("the points %v: a product with the inverse is not the identity matrix", points)
	}
}

func TestSquareMatrixHasAnInverse(t *testing.T) {
	d := dice(10)
	for n := 1; n <= 64; n++ {
		inverted(t, upTo(n))
		inverted(t, upTo(256)[256-n:])
		inverted(t, d.points(n))
	}
}

func TestSquareMatrixOfSmallSizesHasAnInverse(t *testing.T) {
	for x := range 256 {
		inverted(t, []byte{byte(x)})
		for _, y := range []byte{1, 2, 3, 85, 128, 255} {
			inverted(t, []byte{byte(x), byte(x) ^ y})
		}
	}
	for x := range 6 {
		for y := range 6 {
			for z := range 6 {
				if x != y && x != z && y != z {
					inverted(t, []byte{byte(x), byte(y), byte(z)})
				}
			}
		}
	}
}

// The determinant is the product of the differences of all pairs of points.
func TestDeterminantOfASquareMatrix(t *testing.T) {
	d := dice(11)
	for n := 1; n <= 64; n++ {
		points := d.points(n)
		want := byte(1)
		for i := range n {
			for k := range i {
				want = gf.Mul(want, gf.Add(points[i], points[k]))
			}
		}
		if got, e := solve.Det(matrix(t, points, n)); e != api.OK || got != want || got == 0 {
			t.Errorf("the points %v: %d, %d, want %d", points, got, e, want)
		}
	}
}

// The product with the coefficients is the values, so the inverse leads from the values to what Through returns.
func TestThroughIsTheInverseTimesTheValues(t *testing.T) {
	d := dice(12)
	for _, n := range []int{1, 2, 3, 14, 64} {
		points, values := d.points(n), d.list(n)
		row, _ := mat.Of(values)
		x, e := solve.Solve(matrix(t, points, n), row.Turned())
		if e != api.OK {
			t.Fatal(e)
		}
		foundThrough(t, points, values, x.Turned().Row(0))
	}
}

// Memory

// roomy returns a slice with these elements and others behind its end, and all of its memory.
func roomy(l ...byte) (slice, memory []byte) {
	memory = append(bytes.Clone(l), 201, 202, 203, 204, 205, 206, 207, 208)
	return memory[:len(l)], memory
}

func TestCallsChangeNoArgument(t *testing.T) {
	for _, c := range []struct{ points, values []byte }{
		{[]byte{3, 1, 0, 2}, []byte{9, 8, 7, 6}},
		{[]byte{3, 1, 3, 2}, []byte{9, 8, 7, 6}}, // a point that occurs twice
		{[]byte{3, 1, 0, 2}, []byte{9, 8, 7}},    // too few values
		{[]byte{200}, []byte{0}},
		{nil, nil},
		{upTo(64), upTo(64)},
		{upTo(65), upTo(65)},
	} {
		points, all := roomy(c.points...)
		values, allValues := roomy(c.values...)
		before, beforeValues := bytes.Clone(all), bytes.Clone(allValues)
		for _, n := range []int{0, 1, 4, 64, 65} {
			Matrix(points, n)
		}
		Through(points, values)
		for x := range 256 {
			Value(points, byte(x))
		}
		if !bytes.Equal(all, before) || !bytes.Equal(allValues, beforeValues) {
			t.Errorf("arguments modified: %v and %v, which were %v and %v", all, allValues, before, beforeValues)
		}
	}
}

func TestMatrixIsApartFromThePoints(t *testing.T) {
	points := []byte{3, 1, 0, 2}
	m := matrix(t, points, 3)
	want := m.Copy()
	clear(points)
	if !mat.Same(m, want) {
		t.Errorf("the matrix has changed with the points: %v, was %v", m, want)
	}
	points = []byte{7}
	m = matrix(t, points, 1)
	m.Set(0, 0, 99)
	if points[0] != 7 {
		t.Error("the point has changed with the matrix:", points)
	}
	if again := matrix(t, points, 1); again.At(0, 0) != 1 {
		t.Error("a second matrix has the changes to the first:", again)
	}
}

func TestRowsOfAMatrixAreApart(t *testing.T) {
	m := matrix(t, []byte{5, 6, 7}, 3)
	for k := range 3 {
		m.Set(1, k, 99)
	}
	if !bytes.Equal(m.Row(0), Row(5, 3)) || !bytes.Equal(m.Row(2), Row(7, 3)) {
		t.Error("other rows have changed:", m)
	}
}

func TestCoefficientsAreApartFromPointsAndValues(t *testing.T) {
	for n := range 6 {
		points, values := upTo(n+1), upTo(n + 3)[2:]
		got, e := Through(points, values)
		if e != api.OK {
			t.Fatal(e)
		}
		want := bytes.Clone(got)
		clear(points)
		clear(values)
		if !bytes.Equal(got, want) {
			t.Errorf("the coefficients have changed with the arguments: %v, were %v", got, want)
		}
		for i := range got {
			got[i] = 99
		}
		got = append(got, 99)
		if !bytes.Equal(points, make([]byte, n+1)) || !bytes.Equal(values, make([]byte, n+1)) {
			t.Errorf("the arguments have changed with the coefficients %v: %v and %v", got, points, values)
		}
		foundThrough(t, upTo(n+1), upTo(n + 3)[2:], want)
	}
}

func TestResultsAreApartFromEachOther(t *testing.T) {
	scrawl := func(l []byte) {
		l = l[:cap(l)]
		for i := range l {
			l[i] = 99
		}
	}
	rows := func() []byte { return Row(2, 5) }
	points := func() []byte { l, _ := Points(5, 3); return l }
	through := func() []byte { l, _ := Through([]byte{1, 2, 3}, []byte{4, 5, 6}); return l }
	for i, call := range []func() []byte{rows, points, through} {
		first, second := call(), call()
		want := bytes.Clone(second)
		if !bytes.Equal(first, want) {
			t.Errorf("call %d: %v, and %v the second time", i, first, want)
		}
		scrawl(first)
		if !bytes.Equal(second, want) {
			t.Errorf("call %d: a result has changed with another: %v, was %v", i, second, want)
		}
		if third := call(); !bytes.Equal(third, want) {
			t.Errorf("call %d: %v after a change to an earlier result, want %v", i, third, want)
		}
	}
}
