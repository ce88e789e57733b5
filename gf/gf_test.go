package gf

import (
	"math"
	"testing"

	"coldframe/api"
)

// plainMul multiplies and divides polynomials as one does by hand, to hold Mul against.
func plainMul(a, b byte) byte {
	product := 0
	for i := range 8 {
		for k := range 8 {
			if a>>i&1 == 1 && b>>k&1 == 1 {
				product ^= 1 << (i + k)
			}
		}
	}
	const divisor = 1<<8 + 1<<4 + 1<<3 + 1<<2 + 1
	for i := 14; i >= 8; i-- {
		if product>>i&1 == 1 {
			product ^= divisor << (i - 8)
		}
	}
	return byte(product)
}

// plainPow multiplies n times.
func plainPow(a byte, n int) byte {
	p := byte(1)
	for range n {
		p = plainMul(p, a)
	}
	return p
}

// products holds Mul of all pairs, so that all triples can be gone through.
func products() *[256][256]byte {
	var p [256][256]byte
	for a := range 256 {
		for b := range 256 {
			p[a][b] = Mul(byte(a), byte(b))
		}
	}
	return &p
}

// P2.1

func TestAddOfAllPairs(t *testing.T) {
	for a := range 256 {
		for b := range 256 {
			var want byte
			for i := range 8 {
				want |= byte((a>>i&1+b>>i&1)%2) << i
			}
			if got := Add(byte(a), byte(b)); got != want {
				t.Fatalf("Add(%d, %d): %d, want %d", a, b, got, want)
			}
		}
	}
}

func TestAddExamples(t *testing.T) {
	for _, c := range []struct{ a, b, want byte }{
		{0, 0, 0}, {0, 77, 77}, {77, 0, 77}, {77, 77, 0}, {1, 2, 3}, {3, 5, 6}, {255, 1, 254}, {0x53, 0xca, 0x99},
	} {
		if got := Add(c.a, c.b); got != c.want {
			t.Errorf("Add(%d, %d): %d, want %d", c.a, c.b, got, c.want)
		}
	}
}

func TestMulOfAllPairs(t *testing.T) {
	for a := range 256 {
		for b := range 256 {
			if got, want := Mul(byte(a), byte(b)), plainMul(byte(a), byte(b)); got != want {
				t.Fatalf("Mul(%d, %d): %d, want %d", a, b, got, want)
			}
		}
	}
}

func TestMulExamples(t *testing.T) {
	for _, c := range []struct{ a, b, want byte }{
		{2, 128, 29}, {128, 2, 29}, {3, 7, 9}, {0, 0, 0}, {0, 255, 0}, {255, 0, 0}, {1, 255, 255}, {255, 1, 255},
		{2, 64, 128}, {128, 128, 19}, {4, 128, 58}, {2, 142, 1},
	} {
		if got := Mul(c.a, c.b); got != c.want {
			t.Errorf("Mul(%d, %d): %d, want %d", c.a, c.b, got, c.want)
		}
	}
}

// P2.2

func TestPowCountsFactors(t *testing.T) {
	for a := range 256 {
		want := byte(1)
		for n := range 600 {
			if got := Pow(byte(a), n); got != want {
				t.Fatalf("Pow(%d, %d): %d, want %d", a, n, got, want)
			}
			want = plainMul(want, byte(a))
		}
	}
}

func TestPowBelow1Is1(t *testing.T) {
	for a := range 256 {
		for _, n := range []int{0, -1, -2, -3, -254, -255, -256, math.MinInt32, math.MinInt + 1, math.MinInt} {
			if got := Pow(byte(a), n); got != 1 {
				t.Fatalf("Pow(%d, %d): %d, want 1", a, n, got)
			}
		}
	}
}

func TestPowOfGreatExponents(t *testing.T) {
	for _, n := range []int{1 << 8, 65535, 65536, math.MaxInt32, math.MaxInt32 + 1, 1 << 62, math.MaxInt - 1, math.MaxInt} {
		if got := Pow(0, n); got != 0 {
			t.Errorf("Pow(0, %d): %d", n, got)
		}
		for a := 1; a < 256; a++ {
			if got, want := Pow(byte(a), n), plainPow(byte(a), n%255); got != want {
				t.Fatalf("Pow(%d, %d): %d, want %d", a, n, got, want)
			}
		}
	}
}

func TestPowExamples(t *testing.T) {
	for _, c := range []struct {
		a    byte
		n    int
		want byte
	}{
		{2, 1, 2}, {2, 7, 128}, {2, 8, 29}, {2, 254, 142}, {2, 255, 1}, {2, 256, 2},
		{0, 0, 1}, {0, 1, 0}, {0, 255, 0}, {1, 99, 1}, {7, 0, 1}, {7, 1, 7}, {7, -3, 1},
	} {
		if got := Pow(c.a, c.n); got != c.want {
			t.Errorf("Pow(%d, %d): %d, want %d", c.a, c.n, got, c.want)
		}
	}
}

func TestInvOfAll(t *testing.T) {
	for a := 1; a < 256; a++ {
		i, e := Inv(byte(a))
		if e != api.OK || plainMul(byte(a), i) != 1 || plainMul(i, byte(a)) != 1 {
			t.Errorf("Inv(%d): %d, %d", a, i, e)
		}
	}
	if i, e := Inv(2); i != 142 || e != api.OK {
		t.Errorf("Inv(2): %d, %d", i, e)
	}
}

func TestInvOf0(t *testing.T) {
	if i, e := Inv(0); i != 0 || e != api.ErrArg {
		t.Errorf("Inv(0): %d, %d", i, e)
	}
}

func TestDivOfAllPairs(t *testing.T) {
	for a := range 256 {
		for b := 1; b < 256; b++ {
			d, e := Div(byte(a), byte(b))
			if e != api.OK || plainMul(d, byte(b)) != byte(a) {
				t.Fatalf("Div(%d, %d): %d, %d", a, b, d, e)
			}
		}
	}
	if d, e := Div(29, 2); d != 128 || e != api.OK {
		t.Errorf("Div(29, 2): %d, %d", d, e)
	}
}

func TestDivBy0(t *testing.T) {
	for a := range 256 {
		if d, e := Div(byte(a), 0); d != 0 || e != api.ErrArg {
			t.Errorf("Div(%d, 0): %d, %d", a, d, e)
		}
	}
}

func TestOrderOfAll(t *testing.T) {
	for a := 1; a < 256; a++ {
		want := 1
		for p := byte(a); p != 1; p = plainMul(p, byte(a)) {
			want++
		}
		if got := Order(byte(a)); got != want {
			t.Errorf("Order(%d): %d, want %d", a, got, want)
		}
	}
}

func TestOrderExamples(t *testing.T) {
	if Order(0) != 0 || Order(1) != 1 || Order(2) != 255 {
		t.Error(Order(0), Order(1), Order(2))
	}
	for _, n := range []int{3, 5, 15, 17, 51, 85, 255} {
		if got := Order(Pow(2, 255/n)); got != n {
			t.Errorf("Order of 2 to the power of %d: %d, want %d", 255/n, got, n)
		}
	}
}

// P2.3

func TestExp(t *testing.T) {
	x := Make()
	for n := -1100; n <= 1100; n++ {
		if got, want := x.Exp(n), plainPow(2, ((n%255)+255)%255); got != want {
			t.Fatalf("Exp(%d): %d, want %d", n, got, want)
		}
	}
}

func TestExpExamples(t *testing.T) {
	x := Make()
	for _, c := range []struct {
		n    int
		want byte
	}{
		{0, 1}, {1, 2}, {7, 128}, {8, 29}, {254, 142}, {255, 1}, {256, 2}, {510, 1},
		{-1, 142}, {-247, 29}, {-254, 2}, {-255, 1}, {-256, 142}, {-510, 1},
		{255 << 40, 1}, {-(255 << 40), 1}, {255<<40 + 8, 29}, {-(255 << 40) + 8, 29},
	} {
		if got := x.Exp(c.n); got != c.want {
			t.Errorf("Exp(%d): %d, want %d", c.n, got, c.want)
		}
	}
}

func TestExpOfTheOutermostExponents(t *testing.T) {
	x := Make()
	if got, want := x.Exp(math.MaxInt), plainPow(2, math.MaxInt%255); got != want {
		t.Errorf("Exp of the greatest: %d, want %d", got, want)
	}
	if got, want := x.Exp(math.MinInt), plainPow(2, 255+math.MinInt%255); got != want {
		t.Errorf("Exp of the least: %d, want %d", got, want)
	}
}

func TestLogOfAll(t *testing.T) {
	x := Make()
	var seen [255]bool
	for a := 1; a < 256; a++ {
		n := x.Log(byte(a))
		if n < 0 || n > 254 || seen[n] {
			t.Fatalf("Log(%d): %d", a, n)
		}
		seen[n] = true
		if plainPow(2, n) != byte(a) || x.Exp(n) != byte(a) {
			t.Errorf("Log(%d): %d, of which Exp is %d", a, n, x.Exp(n))
		}
	}
	if x.Log(1) != 0 || x.Log(2) != 1 || x.Log(29) != 8 || x.Log(142) != 254 {
		t.Error(x.Log(1), x.Log(2), x.Log(29), x.Log(142))
	}
}

func TestLogOf0(t *testing.T) {
	if got := Make().Log(0); got != -1 {
		t.Error(got)
	}
}

func TestMulByTablesOfAllPairs(t *testing.T) {
	x := Make()
	for a := range 256 {
		for b := range 256 {
			if got, want := x.Mul(byte(a), byte(b)), plainMul(byte(a), byte(b)); got != want {
				t.Fatalf("Mul by tables of %d and %d: %d, want %d", a, b, got, want)
			}
		}
	}
}

func TestNilTables(t *testing.T) {
	var x *Tables
	for _, n := range []int{math.MinInt, -256, -255, -1, 0, 1, 254, 255, math.MaxInt} {
		if got := x.Exp(n); got != 0 {
			t.Errorf("Exp(%d): %d", n, got)
		}
	}
	for a := range 256 {
		if got := x.Log(byte(a)); got != -1 {
			t.Errorf("Log(%d): %d", a, got)
		}
		for b := range 256 {
			if got := x.Mul(byte(a), byte(b)); got != 0 {
				t.Fatalf("Mul(%d, %d): %d", a, b, got)
			}
		}
	}
}

func TestTablesAreAlikeAndStaySo(t *testing.T) {
	x := Make()
	for n := range 255 {
		x.Exp(-n)
		x.Mul(byte(n), byte(n+1))
	}
	y := Make()
	if x == nil || y == nil || *x != *y {
		t.Error("tables differ")
	}
}

// P2.4

func TestSumsInAnyOrder(t *testing.T) {
	for a := range 256 {
		for b := range 256 {
			ab := Add(byte(a), byte(b))
			if ab != Add(byte(b), byte(a)) {
				t.Fatalf("%d + %d is not commutative", a, b)
			}
			for c := range 256 {
				if Add(ab, byte(c)) != Add(byte(a), Add(byte(b), byte(c))) {
					t.Fatalf("%d + %d + %d is not associative", a, b, c)
				}
			}
		}
	}
}

func TestProductsInAnyOrder(t *testing.T) {
	p := products()
	for a := range 256 {
		for b := range 256 {
			if p[a][b] != p[b][a] {
				t.Fatalf("%d * %d is not commutative", a, b)
			}
			for c := range 256 {
				if p[p[a][b]][c] != p[a][p[b][c]] {
					t.Fatalf("%d * %d * %d is not associative", a, b, c)
				}
			}
		}
	}
}

func TestProductsDistributeOverSums(t *testing.T) {
	p := products()
	for a := range 256 {
		for b := range 256 {
			for c := range 256 {
				sum := Add(byte(b), byte(c))
				if p[a][sum] != Add(p[a][b], p[a][c]) || p[sum][a] != Add(p[b][a], p[c][a]) {
					t.Fatalf("%d * (%d + %d) is not distributive", a, b, c)
				}
			}
		}
	}
}

func TestProductsByTablesInAnyOrder(t *testing.T) {
	x := Make()
	for a := range 256 {
		for b := range 256 {
			ab := x.Mul(byte(a), byte(b))
			if ab != x.Mul(byte(b), byte(a)) {
				t.Fatalf("%d * %d by tables is not commutative", a, b)
			}
			c := byte(a*31 + b*7 + 3)
			if x.Mul(ab, c) != x.Mul(byte(a), x.Mul(byte(b), c)) {
				t.Fatalf("%d * %d * %d by tables is not associative", a, b, c)
			}
		}
	}
}
