package site

import (
	"math"
	"math/big"
	"slices"
	"testing"

	"coldframe/api"
)

// dice makes numbers that look as if they were random; the seed tells which.
type dice uint32

// below returns a number from 0 to n - 1, for n of at most 2^32.
func (d *dice) below(n int) int {
	high := d.next()
	return (high<<16 | d.next()) % n
}

// next returns a number from 0 to 2^16 - 1.
func (d *dice) next() int {
	*d = *d*1664525 + 1013904223
	return int(*d >> 16)
}

// within makes a point whose parts are from -most to most.
func (d *dice) within(t *testing.T, most int) Point {
	t.Helper()
	return at(t, d.below(2*most+1)-most, d.below(2*most+1)-most)
}

// list makes n points whose parts are from -most to most.
func (d *dice) list(t *testing.T, n, most int) []Point {
	t.Helper()
	l := make([]Point, n)
	for i := range l {
		l[i] = d.within(t, most)
	}
	return l
}

// sum makes the Mid of n points, and its parts.
func (d *dice) sum(t *testing.T, n int) (p Point, x, y int) {
	t.Helper()
	l := d.list(t, n, Most)
	for _, a := range l {
		ax, ay := a.Parts()
		x, y = x+ax, y+ay
	}
	return Mid(l...), x, y
}

// at makes a point of parts that are known to be fit.
func at(t *testing.T, x, y int) Point {
	t.Helper()
	p, e := At(x, y)
	if e != api.OK {
		t.Fatalf("At(%d, %d): %v, %d", x, y, p, e)
	}
	return p
}

// points makes the points with these parts.
func points(t *testing.T, parts ...[2]int) []Point {
	t.Helper()
	var l []Point
	for _, p := range parts {
		l = append(l, at(t, p[0], p[1]))
	}
	return l
}

// great makes the point with these parts as the Mid of 1000 points, whose parts may be that much greater than those of
// a point that At returns. The points differ by 1 at most, so that the sum can be any.
func great(t *testing.T, x, y int) Point {
	t.Helper()
	const many = 1000
	l := make([]Point, 0, many)
	for i := range many {
		left := many - i
		px, py := x/left, y/left
		l = append(l, at(t, px, py))
		x, y = x-px, y-py
	}
	return Mid(l...)
}

// hasParts checks that Parts returns the numbers wanted, and that a part of 0 has no sign.
func hasParts(t *testing.T, p Point, x, y int) {
	t.Helper()
	if gotX, gotY := p.Parts(); gotX != x || gotY != y {
		t.Errorf("Parts of %v: %d, %d, want %d, %d", p, gotX, gotY, x, y)
	}
	if x == 0 && math.Signbit(real(p)) || y == 0 && math.Signbit(imag(p)) {
		t.Errorf("%v: a part that is 0 has a sign", p)
	}
}

// far checks that Far returns the number wanted, whichever of the points comes first.
func far(t *testing.T, a, b Point, want int) {
	t.Helper()
	if got := Far(a, b); got != want {
		t.Errorf("Far(%v, %v): %d, want %d", a, b, got, want)
	}
	if got := Far(b, a); got != want {
		t.Errorf("Far(%v, %v): %d, want %d", b, a, got, want)
	}
}

// near checks that Near returns the indices wanted.
func near(t *testing.T, from Point, l []Point, want ...int) {
	t.Helper()
	if got := Near(from, l); !slices.Equal(got, want) {
		t.Errorf("Near(%v, %v): %v, want %v", from, l, got, want)
	}
}

// spread checks that Spread returns the number wanted.
func spread(t *testing.T, want int, l ...Point) {
	t.Helper()
	if got := Spread(l); got != want {
		t.Errorf("Spread(%v): %d, want %d", l, got, want)
	}
}

// square returns the sum of the squares of two numbers, by calculating with integers of any size.
func square(x, y int) int {
	a, b := big.NewInt(int64(x)), big.NewInt(int64(y))
	a.Mul(a, a)
	b.Mul(b, b)
	return int(a.Add(a, b).Int64())
}

// allowedParts makes parts that a point may have.
func allowedParts() []int {
	return []int{-Most, -Most + 1, -1 << 19, -256, -4, -3, -2, -1, 0, 1, 2, 3, 4, 255, 1 << 19, Most - 1, Most}
}

// wrongParts makes parts that no point may have.
func wrongParts() []int {
	return []int{
		-Most - 1, -Most - 2, -2 * Most, -1 << 31, -1 << 32, -1<<32 - 1, -1 << 53, -1 << 62, math.MinInt + 1, math.MinInt,
		Most + 1, Most + 2, 2 * Most, 1 << 31, 1 << 32, 1<<32 + 1, 1 << 53, 1<<53 + 1, 1 << 62, math.MaxInt - 1, math.MaxInt,
	}
}

// turns makes numbers of quarters, with what they are modulo 4.
func turns() map[int]int {
	return map[int]int{
		0: 0, 1: 1, 2: 2, 3: 3, 4: 0, 5: 1, 6: 2, 7: 3, 8: 0, 1001: 1,
		-1: 3, -2: 2, -3: 1, -4: 0, -5: 3, -6: 2, -7: 1, -8: 0, -1001: 3,
		1 << 32: 0, 1<<32 + 1: 1, -1 << 32: 0, -1<<32 - 1: 3,
		math.MinInt: 0, math.MinInt + 1: 1, math.MaxInt: 3, math.MaxInt - 1: 2,
	}
}

// P9.1

func TestMost(t *testing.T) {
	if Most != 1048576 {
		t.Errorf("Most: %d", Most)
	}
}

func TestAtOfAllowedParts(t *testing.T) {
	for _, x := range allowedParts() {
		for _, y := range allowedParts() {
			p, e := At(x, y)
			if e != api.OK {
				t.Errorf("At(%d, %d): %v, %d", x, y, p, e)
			}
			hasParts(t, p, x, y)
		}
	}
}

func TestAtOfManyParts(t *testing.T) {
	d := dice(1)
	for range 20000 {
		x, y := d.below(2*Most+1)-Most, d.below(2*Most+1)-Most
		hasParts(t, at(t, x, y), x, y)
	}
	for x := -1000; x <= 1000; x++ {
		hasParts(t, at(t, x, -x), x, -x)
	}
}

func TestAtIsTheComplexNumber(t *testing.T) {
	if p := at(t, 3, -4); p != 3-4i || real(p) != 3 || imag(p) != -4 {
		t.Errorf("At(3, -4): %v", p)
	}
	if p := at(t, 0, 0); p != 0 {
		t.Errorf("At(0, 0): %v", p)
	}
}

// refusedAt checks that At returns 0 and ErrArg.
func refusedAt(t *testing.T, x, y int) {
	t.Helper()
	if p, e := At(x, y); e != api.ErrArg || p != 0 {
		t.Errorf("At(%d, %d): %v, %d, want 0 and %d", x, y, p, e, api.ErrArg)
	}
}

func TestAtOfWrongParts(t *testing.T) {
	for _, wrong := range wrongParts() {
		for _, part := range allowedParts() {
			refusedAt(t, wrong, part)
			refusedAt(t, part, wrong)
		}
		for _, other := range wrongParts() {
			refusedAt(t, wrong, other)
		}
	}
}

func TestPartsOfTurnedPoints(t *testing.T) {
	for _, x := range allowedParts() {
		for _, y := range allowedParts() {
			p := at(t, x, y)
			hasParts(t, Turned(p, 0), x, y)
			hasParts(t, Turned(p, 1), -y, x)
			hasParts(t, Turned(p, 2), -x, -y)
			hasParts(t, Turned(p, 3), y, -x)
		}
	}
}

func TestPartsOfMids(t *testing.T) {
	for _, x := range allowedParts() {
		for _, y := range allowedParts() {
			p := at(t, x, y)
			hasParts(t, Mid(p), x, y)
			hasParts(t, Mid(p, p, p), 3*x, 3*y)
			hasParts(t, Mid(p, Turned(p, 2)), 0, 0)
			hasParts(t, Mid(p, Turned(p, 1)), x-y, x+y)
			hasParts(t, Mid(slices.Repeat([]Point{p}, 1000)...), 1000*x, 1000*y)
		}
	}
}

// P9.2

func TestFarByHand(t *testing.T) {
	far(t, at(t, 0, 0), at(t, 3, 4), 25) // the chapter's example
	far(t, at(t, 0, 0), at(t, 0, 0), 0)
	far(t, at(t, 0, 0), at(t, 0, 1), 1)
	far(t, at(t, 0, 0), at(t, 1, 0), 1)
	far(t, at(t, 0, 0), at(t, -1, -1), 2)
	far(t, at(t, -3, 7), at(t, -3, 7), 0)
	far(t, at(t, 5, 0), at(t, 0, -9), 106)
	far(t, at(t, -2, -5), at(t, 4, 3), 100)
	far(t, at(t, 10, 20), at(t, 7, 25), 34)
}

func TestFarOfAllPairs(t *testing.T) {
	parts := []int{-Most, -Most + 1, -257, -1, 0, 1, 3, Most}
	for _, ax := range parts {
		for _, ay := range parts {
			for _, bx := range parts {
				for _, by := range parts {
					far(t, at(t, ax, ay), at(t, bx, by), square(ax-bx, ay-by))
				}
			}
		}
	}
}

func TestFarOfTheFarthestPoints(t *testing.T) {
	far(t, at(t, -Most, -Most), at(t, Most, Most), 1<<43)
	far(t, at(t, Most, -Most), at(t, -Most, Most), 1<<43)
	far(t, at(t, -Most, 0), at(t, Most, 0), 1<<42)
	far(t, at(t, 0, Most), at(t, 0, -Most), 1<<42)
	far(t, at(t, 1-Most, -Most), at(t, Most, Most), 1<<43-1<<22+1)
}

// Sums of squares above 2^53 are not exact as floats, and these are odd.
func TestFarOfGreatMids(t *testing.T) {
	const most = 1000 * Most
	far(t, great(t, -most, -most), great(t, most, most), 8796093022208000000)
	far(t, great(t, -most+1, -most), great(t, most, most), 8796093018013696001)
	far(t, great(t, -most, -most), great(t, most, most-3), 8796093009625088009)
	far(t, great(t, most, 0), 0, 1099511627776000000)
	far(t, great(t, most-1, 0), 0, 1099511625678848001)
	far(t, great(t, 0, 1-most), 0, 1099511625678848001)
	far(t, great(t, most, 1), 0, 1099511627776000001)
	far(t, great(t, most, most), great(t, most, most-1), 1)
	far(t, great(t, 94906267, 0), 0, 9007199515875289) // the least odd square above 2^53
}

func TestFarOfMids(t *testing.T) {
	d := dice(2)
	for range 200 {
		a, ax, ay := d.sum(t, 1+d.below(1000))
		b, bx, by := d.sum(t, 1+d.below(1000))
		far(t, a, b, square(ax-bx, ay-by))
		far(t, a, a, 0)
	}
	const most = 1000 * Most
	for range 200 {
		ax, ay, bx, by := d.below(most), -d.below(most), -d.below(most), d.below(most)
		far(t, great(t, ax, ay), great(t, bx, by), square(ax-bx, ay-by))
	}
}

func TestTurnedByHand(t *testing.T) {
	p := at(t, 3, 4)
	for n, want := range map[int]Point{
		0: 3 + 4i, 1: -4 + 3i, 2: -3 - 4i, 3: 4 - 3i, 4: 3 + 4i, 5: -4 + 3i,
		-1: 4 - 3i, -2: -3 - 4i, -3: -4 + 3i, -4: 3 + 4i, -5: 4 - 3i,
		math.MinInt: 3 + 4i, math.MaxInt: 4 - 3i,
	} {
		if got := Turned(p, n); got != want {
			t.Errorf("Turned(%v, %d): %v, want %v", p, n, got, want)
		}
	}
}

// turnedParts returns the parts of a point turned by so many quarters, one after the other.
func turnedParts(x, y, quarters int) (int, int) {
	for range quarters {
		x, y = -y, x
	}
	return x, y
}

func TestTurnedByEveryNumber(t *testing.T) {
	for n, quarters := range turns() {
		for _, x := range allowedParts() {
			for _, y := range allowedParts() {
				wantX, wantY := turnedParts(x, y, quarters)
				hasParts(t, Turned(at(t, x, y), n), wantX, wantY)
			}
		}
	}
}

func TestTurnedGoesRound(t *testing.T) {
	d := dice(3)
	for _, p := range append(d.list(t, 200, Most), 0) {
		for n := -9; n <= 9; n++ {
			if Turned(Turned(p, n), -n) != p || Turned(p, n+4) != Turned(p, n) || Turned(Turned(p, n), 1) != Turned(p, n+1) {
				t.Errorf("%v turned by %d", p, n)
			}
		}
	}
}

func TestTurnedMids(t *testing.T) {
	const most = 1000 * Most
	for n, quarters := range turns() {
		for _, parts := range [][2]int{{most, most - 1}, {-most, most}, {0, 1 - most}, {most, 0}, {-999999999, 7}, {0, 0}} {
			wantX, wantY := turnedParts(parts[0], parts[1], quarters)
			hasParts(t, Turned(great(t, parts[0], parts[1]), n), wantX, wantY)
		}
	}
}

func TestMidByHand(t *testing.T) {
	hasParts(t, Mid(), 0, 0)
	hasParts(t, Mid([]Point{}...), 0, 0)
	hasParts(t, Mid(at(t, 0, 0)), 0, 0)
	hasParts(t, Mid(at(t, 7, -8)), 7, -8)
	hasParts(t, Mid(at(t, 7, -8), at(t, 1, 2)), 8, -6)
	hasParts(t, Mid(at(t, 7, -8), at(t, -7, 8)), 0, 0)
	hasParts(t, Mid(points(t, [2]int{5, 0}, [2]int{1, 1}, [2]int{-1, 1}, [2]int{0, -9})...), 5, -7)
	hasParts(t, Mid(at(t, 1, 1), at(t, 1, 1), at(t, 1, 1)), 3, 3) // the sum, and not what is in the middle
}

func TestMidOfManyPoints(t *testing.T) {
	d := dice(4)
	for _, n := range []int{0, 1, 2, 3, 10, 500, 999, 1000} {
		for range 20 {
			p, x, y := d.sum(t, n)
			hasParts(t, p, x, y)
		}
	}
	for _, part := range []int{-Most, Most - 1, Most} {
		l := slices.Repeat(points(t, [2]int{part, -part}), 1000)
		hasParts(t, Mid(l...), 1000*part, -1000*part)
		l[0], l[999] = at(t, 0, 1), at(t, 2, 0) // the first and the last belong to the sum too
		hasParts(t, Mid(l...), 998*part+2, -998*part+1)
	}
}

func TestMidInAnyOrder(t *testing.T) {
	d := dice(5)
	l := d.list(t, 1000, Most)
	want := Mid(l...)
	slices.Reverse(l)
	if got := Mid(l...); got != want {
		t.Errorf("%v in reverse order, want %v", got, want)
	}
	if got := Mid(l[:400]...) + Mid(l[400:]...); got != want {
		t.Errorf("%v in two sums, want %v", got, want)
	}
}

// P9.3

func TestNearByHand(t *testing.T) {
	l := points(t, [2]int{5, 0}, [2]int{1, 1}, [2]int{-1, 1}, [2]int{0, -9})
	near(t, at(t, 0, 0), l, 1, 2, 0, 3)
	near(t, at(t, 0, -9), l, 3, 1, 2, 0)
	near(t, at(t, 5, 0), l, 0, 1, 2, 3)
	near(t, at(t, -1, 1), l, 2, 1, 0, 3)
	near(t, at(t, -5, 1), l, 2, 1, 0, 3)
	near(t, at(t, 3, -10), l, 3, 0, 1, 2)
	near(t, at(t, Most, Most), l, 0, 1, 2, 3)
	near(t, at(t, -Most, -Most), l, 3, 2, 1, 0)
}

func TestNearOfFewPoints(t *testing.T) {
	for _, from := range points(t, [2]int{0, 0}, [2]int{3, -4}, [2]int{Most, Most}) {
		near(t, from, nil)
		near(t, from, []Point{})
		near(t, from, []Point{1, 2}[:0])
		near(t, from, []Point{from}, 0)
		near(t, from, points(t, [2]int{-9, 9}), 0)
		near(t, from, []Point{at(t, -1, -1), from}, 1, 0)
		near(t, from, []Point{from, at(t, -1, -1)}, 0, 1)
	}
}

// upTo makes the numbers from 0 to n - 1.
func upTo(n int) []int {
	l := make([]int, n)
	for i := range l {
		l[i] = i
	}
	return l
}

func TestNearOfEqualPoints(t *testing.T) {
	p := at(t, 5, -6)
	for _, n := range []int{2, 3, 12, 13, 100, 1000} {
		l := slices.Repeat([]Point{p}, n)
		near(t, p, l, upTo(n)...)
		near(t, at(t, 0, 0), l, upTo(n)...)
		l[n-1] = at(t, 1, 1)
		near(t, at(t, 0, 0), l, append([]int{n - 1}, upTo(n-1)...)...)
	}
}

// The twelve points lie on one circle around 0 and are 5 from it, whatever they are turned by.
func TestNearOfPointsEquallyFar(t *testing.T) {
	var l []Point
	for _, p := range points(t, [2]int{3, 4}, [2]int{5, 0}, [2]int{4, 3}) {
		for n := range 4 {
			l = append(l, Turned(p, n))
		}
	}
	near(t, 0, l, upTo(12)...)
	slices.Reverse(l)
	near(t, 0, l, upTo(12)...)
	l = append(l, at(t, 0, 1), at(t, 5, 1), at(t, 1, 0), at(t, 1, 5))
	near(t, 0, l, append(append([]int{12, 14}, upTo(12)...), 13, 15)...)
}

// sorted checks that the indices are those of all points, by their Far, and equally far ones by index.
func sorted(t *testing.T, from Point, l []Point) {
	t.Helper()
	order := Near(from, l)
	if all := slices.Sorted(slices.Values(order)); !slices.Equal(all, upTo(len(l))) {
		t.Fatalf("Near(%v, %d points): %v", from, len(l), order)
	}
	for i := 1; i < len(order); i++ {
		a, b := order[i-1], order[i]
		farA, farB := Far(from, l[a]), Far(from, l[b])
		if farA > farB || farA == farB && a > b {
			t.Errorf("Near(%v, %d points): %d, %d from it, is ahead of %d, %d from it", from, len(l), a, farA, b, farB)
		}
	}
}

func TestNearOfManyPoints(t *testing.T) {
	d := dice(6)
	for _, most := range []int{1, 3, 30, Most} { // with few points to choose from, many are equally far
		for _, n := range []int{0, 1, 2, 5, 11, 12, 13, 32, 50, 300, 1000} {
			l := d.list(t, n, most)
			sorted(t, d.within(t, most), l)
			sorted(t, 0, l)
			sorted(t, at(t, -Most, Most), l)
		}
	}
}

// As floats, the squares of these distances would be equal.
func TestNearOfGreatMids(t *testing.T) {
	const most = 1000 * Most
	near(t, 0, []Point{great(t, most, 1), great(t, most, 0)}, 1, 0)
	near(t, 0, []Point{great(t, most, 0), great(t, most, 1)}, 0, 1)
	near(t, 0, []Point{great(t, 3, -most), great(t, most, 2), great(t, -1, most), great(t, -most, 0), great(t, 1, most)}, 3, 2, 4, 1, 0)
	near(t, great(t, -most, -most), []Point{great(t, most, most), great(t, most, most-1), great(t, most-1, most)}, 1, 2, 0)
	near(t, great(t, -most, 0), []Point{great(t, most, 2), great(t, most, -1), great(t, most, 0), great(t, most, 1)}, 2, 1, 3, 0)
}

func TestSpreadByHand(t *testing.T) {
	l := points(t, [2]int{5, 0}, [2]int{1, 1}, [2]int{-1, 1}, [2]int{0, -9})
	spread(t, 4, l...)
	spread(t, 17, l[:2]...)
	spread(t, 17, l[0], l[3], l[1])
	spread(t, 101, l[2], l[3])
	spread(t, 25, at(t, 0, 0), at(t, 3, 4))
	spread(t, 1<<43, at(t, -Most, Most), at(t, Most, -Most))
	spread(t, 1, at(t, 0, 0), at(t, 1<<16, 0), at(t, 1<<16, 1)) // the others are 2^32 and one more
	spread(t, 1<<32, at(t, 0, 0), at(t, 1<<16, 1), at(t, 0, -1<<16))
}

func TestSpreadOfFewPoints(t *testing.T) {
	if Spread(nil) != -1 || Spread([]Point{}) != -1 || Spread([]Point{1, 2}[:0]) != -1 {
		t.Error("Spread of no points isn't -1")
	}
	for _, p := range points(t, [2]int{0, 0}, [2]int{3, -4}, [2]int{-Most, Most}) {
		spread(t, -1, p)
		spread(t, -1, []Point{p, p, 7}[:1]...)
		spread(t, 0, p, p)
		spread(t, 1, p, p+1)
		spread(t, 1, p, p-1i)
		spread(t, 2, p+1, p+1i)
	}
}

func TestSpreadOfEqualPoints(t *testing.T) {
	p := at(t, 5, -6)
	for _, n := range []int{2, 3, 100} {
		spread(t, 0, slices.Repeat([]Point{p}, n)...)
	}
	spread(t, 0, p, at(t, 9, 9), p)
	spread(t, 0, at(t, 9, 9), p, p)
	spread(t, 0, p, p, at(t, 9, 9))
	spread(t, 0, p, at(t, 9, 9), at(t, 9, 8), at(t, 7, 7), at(t, 9, 8))
}

// In a list of distant points, each pair in turn is the one with the least Far, also the last one and the first one.
func TestSpreadOfEveryPair(t *testing.T) {
	for n := 2; n <= 9; n++ {
		for i := range n {
			for k := i + 1; k < n; k++ {
				var l []Point
				for at := range n {
					l = append(l, Point(complex(float64(100*at*at+1000*at), float64(-777*at))))
				}
				l[i] = l[k] + 2 - 3i
				spread(t, 13, l...)
			}
		}
	}
	spread(t, 2, points(t, [2]int{0, 0}, [2]int{100, 0}, [2]int{0, 100}, [2]int{50, 50}, [2]int{51, 51})...)
}

func TestSpreadOfManyPoints(t *testing.T) {
	d := dice(7)
	for _, n := range []int{2, 3, 4, 10, 31, 100} {
		for i := range 40 {
			l := d.list(t, n, []int{1000, Most}[i%2])
			least := math.MaxInt
			for i := range l {
				for k := range l {
					if i != k {
						ax, ay := l[i].Parts()
						bx, by := l[k].Parts()
						least = min(least, square(ax-bx, ay-by))
					}
				}
			}
			spread(t, least, l...)
		}
	}
}

// As floats, the squares would be rounded, and those of two pairs equal.
func TestSpreadOfGreatMids(t *testing.T) {
	const most = 1000 * Most
	zero, one, other := great(t, 0, 0), great(t, most-1, 2), great(t, 1-most, 0)
	spread(t, 1099511625678848005, zero, one)
	spread(t, 1099511625678848001, zero, one, other)
	spread(t, 1099511625678848001, zero, other, one)
	spread(t, 1099511625678848001, other, one, zero)
	spread(t, 8796093018013696001, great(t, 1-most, -most), great(t, most, most))
}

// P9.4

// sameDistances checks that points turned by n quarters are as far apart as before, and that this shows in Near and
// Spread too.
func sameDistances(t *testing.T, n int, l []Point) {
	t.Helper()
	var turned []Point
	for _, p := range l {
		turned = append(turned, Turned(p, n))
	}
	for i := range l {
		for k := range l {
			if got, want := Far(turned[i], turned[k]), Far(l[i], l[k]); got != want {
				t.Errorf("Far of %v and %v turned by %d: %d, want %d", l[i], l[k], n, got, want)
			}
		}
		if got, want := Near(turned[i], turned), Near(l[i], l); !slices.Equal(got, want) {
			t.Errorf("Near of %v turned by %d: %v, want %v", l[i], n, got, want)
		}
	}
	if got, want := Spread(turned), Spread(l); got != want {
		t.Errorf("Spread of points turned by %d: %d, want %d", n, got, want)
	}
}

func TestTurnedPointsAreAsFarAsBefore(t *testing.T) {
	d := dice(8)
	edges := points(t, [2]int{0, 0}, [2]int{Most, Most}, [2]int{-Most, Most}, [2]int{Most, -Most}, [2]int{-Most, -Most},
		[2]int{0, Most}, [2]int{-Most, 0}, [2]int{1, 0}, [2]int{0, -1}, [2]int{1, 0})
	for n := range turns() {
		sameDistances(t, n, edges)
		sameDistances(t, n, d.list(t, 20, Most))
		sameDistances(t, n, d.list(t, 20, 2))
		sameDistances(t, n, nil)
	}
}

func TestTurnedMidsAreAsFarAsBefore(t *testing.T) {
	d := dice(9)
	const most = 1000 * Most
	l := []Point{0, great(t, most, most), great(t, 1-most, -most), great(t, most, -most), great(t, -most, 1), great(t, 0, most)}
	for range 5 {
		p, _, _ := d.sum(t, 1000)
		l = append(l, p)
	}
	for n := range turns() {
		sameDistances(t, n, l)
	}
}

// Memory

func TestNoArgumentIsChanged(t *testing.T) {
	d := dice(10)
	for _, n := range []int{0, 1, 2, 13, 100} {
		all := d.list(t, n+50, 20)
		l, before := all[:n], slices.Clone(all)
		Mid(l...)
		Near(at(t, 1, 1), l)
		Spread(l)
		Mid(all...)
		Near(at(t, -Most, 7), all)
		Spread(all)
		if !slices.Equal(all, before) {
			t.Errorf("the %d points handed in have changed", n)
		}
	}
}

func TestResultsAreApart(t *testing.T) {
	d := dice(11)
	for _, n := range []int{0, 1, 2, 13, 100} {
		l, from := d.list(t, n, 20), at(t, 1, 1)
		before := slices.Clone(l)
		first := Near(from, l)
		want := slices.Clone(first)
		second := Near(from, l)
		clear(first[:cap(first)])
		if !slices.Equal(second, want) || !slices.Equal(l, before) {
			t.Errorf("%d points: the second result or the points have changed with the first result", n)
		}
		sum, least := Mid(l...), Spread(l)
		for i := range l {
			l[i] = at(t, i, -i)
		}
		if !slices.Equal(second, want) {
			t.Errorf("%d points: the result has changed with the points", n)
		}
		if Mid(before...) != sum || Spread(before) != least {
			t.Errorf("%d points: the results depend on the calls before", n)
		}
		near(t, from, before, want...)
	}
}
