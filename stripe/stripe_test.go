package stripe

import (
	"bytes"
	"math"
	"slices"
	"testing"

	"coldframe/api"
	"coldframe/msr"
)

// dice makes numbers that look as if they were random; the seed tells which.
type dice uint32

// below returns a number from 0 to n - 1.
func (d *dice) below(n int) int {
	*d = *d*1664525 + 1013904223
	return int(*d>>16) % n
}

// list makes n bytes, none of them 0, so that they differ from padding.
func (d *dice) list(n int) []byte {
	l := make([]byte, n)
	for i := range l {
		l[i] = byte(1 + d.below(255))
	}
	return l
}

// code makes a code of arguments that are known to be fit.
func code(t *testing.T, n, k int) *msr.Code {
	t.Helper()
	c, e := msr.New(n, k)
	if e != api.OK || c == nil {
		t.Fatalf("New(%d, %d): %v, %d", n, k, c, e)
	}
	return c
}

// codes makes a code for each k.
func codes(t *testing.T) []*msr.Code {
	t.Helper()
	var l []*msr.Code
	for k := 2; k <= 8; k++ {
		l = append(l, code(t, 2*k-1, k))
	}
	return l
}

// everyCode makes all the codes that there are.
func everyCode(t *testing.T) []*msr.Code {
	t.Helper()
	var l []*msr.Code
	for k := 2; k <= 8; k++ {
		for n := 2*k - 1; n <= 24; n++ {
			l = append(l, code(t, n, k))
		}
	}
	return l
}

// symbols returns how many parts a message of a code has, without asking the code for it.
func symbols(c *msr.Code) int {
	return c.K() * (c.K() - 1)
}

// plan makes a plan of arguments that are known to be fit.
func plan(t *testing.T, c *msr.Code, length, piece int) Plan {
	t.Helper()
	p, e := Of(c, length, piece)
	if e != api.OK {
		t.Fatalf("k %d: Of(%d, %d): %v, %d", c.K(), length, piece, p, e)
	}
	return p
}

// planned checks that Of returns the plan wanted.
func planned(t *testing.T, c *msr.Code, length, piece int, want Plan) {
	t.Helper()
	if p, e := Of(c, length, piece); e != api.OK || p != want {
		t.Errorf("k %d: Of(%d, %d): %v, %d, want %v", c.K(), length, piece, p, e, want)
	}
}

// refusedOf checks that Of returns the zero plan and the error wanted.
func refusedOf(t *testing.T, c *msr.Code, length, piece int, want api.Errno) {
	t.Helper()
	if p, e := Of(c, length, piece); e != want || p != (Plan{}) {
		t.Errorf("k %d: Of(%d, %d): %v, %d, want none and %d", c.K(), length, piece, p, e, want)
	}
}

// sameLists reports whether two lists have the same bytes.
func sameLists(a, b [][]byte) bool {
	return slices.EqualFunc(a, b, bytes.Equal)
}

// cut checks that Cut returns the stripes wanted.
func cut(t *testing.T, c *msr.Code, p Plan, b []byte, want ...[]byte) {
	t.Helper()
	if l, e := Cut(c, p, b); e != api.OK || !sameLists(l, want) {
		t.Errorf("k %d: Cut(%v, %v): %v, %d, want %v", c.K(), p, b, l, e, want)
	}
}

// refusedCut checks that Cut returns no stripes and ErrArg.
func refusedCut(t *testing.T, c *msr.Code, p Plan, b []byte) {
	t.Helper()
	if l, e := Cut(c, p, b); e != api.ErrArg || len(l) != 0 {
		t.Errorf("k %d: Cut(%v, %d bytes): %d stripes, %d, want none and %d", c.K(), p, len(b), len(l), e, api.ErrArg)
	}
}

// joined checks that Join returns the bytes wanted.
func joined(t *testing.T, c *msr.Code, p Plan, l [][]byte, want ...byte) {
	t.Helper()
	if b, e := Join(c, p, l); e != api.OK || !bytes.Equal(b, want) {
		t.Errorf("k %d: Join(%v, %v): %v, %d, want %v", c.K(), p, l, b, e, want)
	}
}

// refusedJoin checks that Join returns no bytes and ErrArg.
func refusedJoin(t *testing.T, c *msr.Code, p Plan, l [][]byte) {
	t.Helper()
	if b, e := Join(c, p, l); e != api.ErrArg || len(b) != 0 {
		t.Errorf("k %d: Join(%v, %d stripes): %d bytes, %d, want none and %d", c.K(), p, len(l), len(b), e, api.ErrArg)
	}
}

// refusedSpread checks that Spread returns the zero plan, no shards and the error wanted.
func refusedSpread(t *testing.T, c *msr.Code, piece int, b []byte, want api.Errno) {
	t.Helper()
	if p, l, e := Spread(c, piece, b); e != want || p != (Plan{}) || len(l) != 0 {
		t.Errorf("k %d: Spread(%d, %d bytes): %v, %d stripes, %d, want none and %d", c.K(), piece, len(b), p, len(l), e, want)
	}
}

// wrongPieces makes numbers that are no pieces.
func wrongPieces() []int {
	return []int{0, -1, -2, -256, 257, 258, 512, 1 << 31, 1 << 32, 1<<32 + 1, 1 << 62, math.MinInt, math.MinInt + 1, math.MaxInt}
}

// wrongLengths makes lengths that no object has as they are below 0.
func wrongLengths() []int {
	return []int{-1, -2, -12, -16384, -16385, -1 << 32, math.MinInt, math.MinInt + 1}
}

// tooLong makes lengths that are above the limit.
func tooLong() []int {
	return []int{16385, 16386, 32768, 1 << 31, 1 << 32, 1<<32 + 1, math.MaxInt - 1, math.MaxInt}
}

// P8.1

func TestOfTwoByHand(t *testing.T) {
	c := code(t, 3, 2)
	planned(t, c, 0, 2, Plan{Length: 0, Count: 0, Piece: 2})
	planned(t, c, 1, 2, Plan{Length: 1, Count: 1, Piece: 1})
	planned(t, c, 2, 2, Plan{Length: 2, Count: 1, Piece: 1})
	planned(t, c, 3, 2, Plan{Length: 3, Count: 1, Piece: 2})
	planned(t, c, 4, 2, Plan{Length: 4, Count: 1, Piece: 2})
	planned(t, c, 5, 2, Plan{Length: 5, Count: 2, Piece: 2}) // the chapter's example
	planned(t, c, 8, 2, Plan{Length: 8, Count: 2, Piece: 2})
	planned(t, c, 9, 2, Plan{Length: 9, Count: 3, Piece: 2})
	planned(t, c, 1, 1, Plan{Length: 1, Count: 1, Piece: 1})
	planned(t, c, 2, 1, Plan{Length: 2, Count: 1, Piece: 1})
	planned(t, c, 3, 1, Plan{Length: 3, Count: 2, Piece: 1})
}

func TestOfThreeByHand(t *testing.T) {
	c := code(t, 6, 3)
	planned(t, c, 0, 4, Plan{Length: 0, Count: 0, Piece: 4})
	planned(t, c, 1, 4, Plan{Length: 1, Count: 1, Piece: 1})
	planned(t, c, 6, 4, Plan{Length: 6, Count: 1, Piece: 1})
	planned(t, c, 7, 4, Plan{Length: 7, Count: 1, Piece: 2})
	planned(t, c, 12, 4, Plan{Length: 12, Count: 1, Piece: 2})
	planned(t, c, 13, 4, Plan{Length: 13, Count: 1, Piece: 3})
	planned(t, c, 18, 4, Plan{Length: 18, Count: 1, Piece: 3})
	planned(t, c, 19, 4, Plan{Length: 19, Count: 1, Piece: 4})
	planned(t, c, 23, 4, Plan{Length: 23, Count: 1, Piece: 4})
	planned(t, c, 24, 4, Plan{Length: 24, Count: 1, Piece: 4})
	planned(t, c, 25, 4, Plan{Length: 25, Count: 2, Piece: 4}) // one stripe more, and its Piece is not rounded
	planned(t, c, 47, 4, Plan{Length: 47, Count: 2, Piece: 4})
	planned(t, c, 48, 4, Plan{Length: 48, Count: 2, Piece: 4})
	planned(t, c, 49, 4, Plan{Length: 49, Count: 3, Piece: 4})
}

// fewestOf returns the least number of things of this size that have so many bytes together.
func fewestOf(size, bytes int) int {
	count := 0
	for count*size < bytes {
		count++
	}
	return count
}

// followed checks that Of returns for a length and a piece that are fit what the chapter says.
func followed(t *testing.T, c *msr.Code, length, piece int) {
	t.Helper()
	want := Plan{Length: length, Count: fewestOf(symbols(c)*piece, length), Piece: piece}
	if length > 0 && length < symbols(c)*piece {
		want.Piece = fewestOf(symbols(c), length)
	}
	if length > 16384 || want.Count > 32 {
		refusedOf(t, c, length, piece, api.ErrLong)
		return
	}
	planned(t, c, length, piece, want)
}

func TestOfEveryLength(t *testing.T) {
	for _, c := range codes(t) {
		for _, piece := range []int{1, 2, 3, 100, 256} {
			for length := range 16400 {
				followed(t, c, length, piece)
			}
		}
	}
}

func TestOfEveryPiece(t *testing.T) {
	for _, c := range codes(t) {
		for piece := 1; piece <= 256; piece++ {
			message := symbols(c) * piece
			for _, near := range []int{0, symbols(c), message - symbols(c), message, 2 * message, 31 * message, 32 * message, 33 * message, 16384} {
				for length := max(near-2, 0); length <= near+2; length++ {
					followed(t, c, length, piece)
				}
			}
		}
	}
}

// How many shards there are does not matter, but how many suffice.
func TestOfEveryCode(t *testing.T) {
	for _, c := range everyCode(t) {
		for _, piece := range []int{1, 7, 256} {
			for _, length := range []int{0, 1, 2, 55, 56, 57, 64, 65, 391, 392, 393, 512, 16383, 16384, 16385} {
				followed(t, c, length, piece)
			}
		}
	}
}

func TestOfNoBytes(t *testing.T) {
	for _, c := range codes(t) {
		for piece := 1; piece <= 256; piece++ {
			planned(t, c, 0, piece, Plan{Piece: piece})
		}
	}
}

func TestOfANilCode(t *testing.T) {
	for _, length := range append(append(wrongLengths(), tooLong()...), 0, 1, 4, 193, 16384) {
		for _, piece := range append(wrongPieces(), 1, 2, 255, 256) {
			refusedOf(t, nil, length, piece, api.ErrArg)
		}
	}
}

func TestOfWrongLengths(t *testing.T) {
	for _, c := range codes(t) {
		for _, piece := range append(wrongPieces(), 1, 2, 255, 256) {
			for _, length := range wrongLengths() {
				refusedOf(t, c, length, piece, api.ErrArg)
			}
		}
		refusedOf(t, c, -symbols(c), 1, api.ErrArg)
		refusedOf(t, c, -1, 1, api.ErrArg)
		planned(t, c, 0, 1, Plan{Piece: 1})
		planned(t, c, 1, 1, Plan{Length: 1, Count: 1, Piece: 1})
	}
}

// A wrong piece is named first, whether the length is fit or not.
func TestOfWrongPieces(t *testing.T) {
	for _, c := range codes(t) {
		for _, piece := range wrongPieces() {
			for _, length := range append(tooLong(), 0, 1, 2, 1000, 16384) {
				refusedOf(t, c, length, piece, api.ErrArg)
			}
		}
		planned(t, c, 1, 1, Plan{Length: 1, Count: 1, Piece: 1})
		planned(t, c, symbols(c)*256, 256, Plan{Length: symbols(c) * 256, Count: 1, Piece: 256})
	}
}

func TestOfTheLongest(t *testing.T) {
	counts := []int{32, 11, 6, 4, 3, 2, 2} // of 16384 bytes with pieces of 256, for k from 2 on
	for i, c := range codes(t) {
		planned(t, c, 16384, 256, Plan{Length: 16384, Count: counts[i], Piece: 256})
		for _, length := range tooLong() {
			for _, piece := range []int{1, 2, 255, 256} {
				refusedOf(t, c, length, piece, api.ErrLong)
			}
		}
	}
}

func TestOfTheMostStripes(t *testing.T) {
	for _, c := range codes(t) {
		for piece := 1; piece <= 256; piece++ {
			most := 32 * symbols(c) * piece
			if most > 16384 {
				continue
			}
			planned(t, c, most-1, piece, Plan{Length: most - 1, Count: 32, Piece: piece})
			planned(t, c, most, piece, Plan{Length: most, Count: 32, Piece: piece})
			refusedOf(t, c, most+1, piece, api.ErrLong)
			refusedOf(t, c, 16384+1, piece, api.ErrLong)
		}
	}
	c := code(t, 6, 3)
	planned(t, c, 192, 1, Plan{Length: 192, Count: 32, Piece: 1})
	refusedOf(t, c, 193, 1, api.ErrLong)
	two := code(t, 3, 2)
	planned(t, two, 16320, 255, Plan{Length: 16320, Count: 32, Piece: 255})
	refusedOf(t, two, 16321, 255, api.ErrLong)
	refusedOf(t, two, 16384, 255, api.ErrLong)
}

func TestMessageAndShard(t *testing.T) {
	for _, c := range everyCode(t) {
		for _, piece := range []int{1, 2, 17, 256} {
			for _, length := range []int{0, 1, 2, 3, 7, 56, 57, 64} {
				p := plan(t, c, length, piece)
				if got, want := p.Message(c), c.K()*(c.K()-1)*p.Piece; got != want {
					t.Errorf("k %d: Message of %v: %d, want %d", c.K(), p, got, want)
				}
				if got, want := p.Shard(c), (c.K()-1)*p.Piece; got != want {
					t.Errorf("k %d: Shard of %v: %d, want %d", c.K(), p, got, want)
				}
			}
		}
	}
}

func TestMessageAndShardByHand(t *testing.T) {
	two, three, eight := code(t, 3, 2), code(t, 6, 3), code(t, 24, 8)
	for _, x := range []struct {
		c                             *msr.Code
		length, piece, message, shard int
	}{
		{two, 5, 2, 4, 2}, {two, 1, 2, 2, 1}, {two, 0, 2, 4, 2}, {two, 16384, 256, 512, 256},
		{three, 25, 4, 24, 8}, {three, 1, 4, 6, 2}, {three, 13, 4, 18, 6}, {three, 0, 1, 6, 2},
		{eight, 16384, 256, 14336, 1792}, {eight, 57, 256, 112, 14}, {eight, 0, 256, 14336, 1792},
	} {
		p := plan(t, x.c, x.length, x.piece)
		if m, s := p.Message(x.c), p.Shard(x.c); m != x.message || s != x.shard {
			t.Errorf("k %d: %v: messages of %d bytes and shards of %d, want %d and %d", x.c.K(), p, m, s, x.message, x.shard)
		}
	}
	// The code that is asked decides, also where another one made the plan.
	p := plan(t, three, 25, 4)
	if m, s := p.Message(two), p.Shard(two); m != 8 || s != 4 {
		t.Errorf("%v: messages of %d bytes and shards of %d, want 8 and 4", p, m, s)
	}
}

// P8.2

func TestCutByHand(t *testing.T) {
	c := code(t, 3, 2)
	cut(t, c, plan(t, c, 5, 2), []byte{1, 2, 3, 4, 5}, []byte{1, 2, 3, 4}, []byte{5, 0, 0, 0})
	cut(t, c, plan(t, c, 7, 2), []byte{1, 2, 3, 4, 5, 6, 7}, []byte{1, 2, 3, 4}, []byte{5, 6, 7, 0})
	cut(t, c, plan(t, c, 8, 2), []byte{1, 2, 3, 4, 5, 6, 7, 8}, []byte{1, 2, 3, 4}, []byte{5, 6, 7, 8})
	cut(t, c, plan(t, c, 4, 2), []byte{1, 2, 3, 4}, []byte{1, 2, 3, 4})
	cut(t, c, plan(t, c, 3, 2), []byte{1, 2, 3}, []byte{1, 2, 3, 0})
	cut(t, c, plan(t, c, 1, 2), []byte{1}, []byte{1, 0})
	cut(t, c, plan(t, c, 3, 1), []byte{1, 2, 3}, []byte{1, 2}, []byte{3, 0})
	three := code(t, 6, 3)
	cut(t, three, plan(t, three, 7, 4), []byte{1, 2, 3, 4, 5, 6, 7}, []byte{1, 2, 3, 4, 5, 6, 7, 0, 0, 0, 0, 0})
	cut(t, three, plan(t, three, 7, 1), []byte{1, 2, 3, 4, 5, 6, 7}, []byte{1, 2, 3, 4, 5, 6}, []byte{7, 0, 0, 0, 0, 0})
}

func TestCutOfNoBytes(t *testing.T) {
	for _, c := range codes(t) {
		for _, piece := range []int{1, 2, 256} {
			cut(t, c, plan(t, c, 0, piece), nil)
			cut(t, c, plan(t, c, 0, piece), []byte{})
			cut(t, c, plan(t, c, 0, piece), []byte{1, 2, 3}[:0])
		}
	}
}

// divided makes stripes of so many bytes byte by byte, to hold Cut against.
func divided(b []byte, message int) [][]byte {
	l := make([][]byte, fewestOf(message, len(b)))
	for i := range l {
		l[i] = make([]byte, message)
	}
	for i, x := range b {
		l[i/message][i%message] = x
	}
	return l
}

// lengths makes lengths of objects with this piece that are near those with full stripes.
func lengths(c *msr.Code, piece int) []int {
	var l []int
	message := symbols(c) * piece
	for _, near := range []int{0, symbols(c), message, 2 * message, 3 * message, 32 * message, 16384} {
		for length := max(near-1, 0); length <= near+1; length++ {
			if length <= 16384 && length <= 32*message {
				l = append(l, length)
			}
		}
	}
	return l
}

func TestCutOfEveryCode(t *testing.T) {
	d := dice(1)
	for _, c := range everyCode(t) {
		for _, piece := range []int{1, 5, 256} {
			for _, length := range lengths(c, piece) {
				p := plan(t, c, length, piece)
				b := d.list(length)
				want := divided(b, symbols(c)*p.Piece)
				if len(want) != p.Count {
					t.Fatalf("k %d: %v: %d stripes", c.K(), p, len(want))
				}
				cut(t, c, p, b, want...)
			}
		}
	}
}

func TestCutOfANilCode(t *testing.T) {
	for _, c := range codes(t) {
		for _, length := range []int{0, 1, 2, 5, 56, 64} {
			p := plan(t, c, length, 2)
			refusedCut(t, nil, p, make([]byte, length))
			refusedCut(t, nil, p, make([]byte, length+1))
		}
	}
	refusedCut(t, nil, Plan{}, nil)
	refusedCut(t, nil, Plan{}, []byte{1})
}

func TestCutOfWrongLengths(t *testing.T) {
	for _, c := range codes(t) {
		for _, piece := range []int{1, 4, 256} {
			for _, length := range []int{0, 1, symbols(c) - 1, symbols(c), symbols(c) + 1, 3 * symbols(c)} {
				p := plan(t, c, length, piece)
				refusedCut(t, c, p, make([]byte, length+1))
				refusedCut(t, c, p, make([]byte, 2*length+1))
				if length > 0 {
					refusedCut(t, c, p, make([]byte, length-1))
					refusedCut(t, c, p, nil)
					refusedCut(t, c, p, make([]byte, length)[:0])
				}
				if p.Message(c) != length {
					refusedCut(t, c, p, make([]byte, p.Message(c)))
				}
				cut(t, c, p, make([]byte, length), divided(make([]byte, length), p.Message(c))...)
			}
		}
	}
}

func TestCutOfTheZeroPlan(t *testing.T) {
	for _, c := range codes(t) {
		refusedCut(t, c, Plan{}, nil)
		refusedCut(t, c, Plan{}, []byte{})
		refusedCut(t, c, Plan{}, []byte{0})
		refusedCut(t, c, Plan{}, make([]byte, symbols(c)))
	}
}

// With another code than that of the plan, stripes are as long as that code's messages, however many there are.
func TestCutWithAnotherCode(t *testing.T) {
	two, three := code(t, 3, 2), code(t, 6, 3)
	b := []byte{1, 2, 3, 4, 5, 6, 7}
	cut(t, two, plan(t, three, 7, 4), b, []byte{1, 2, 3, 4}, []byte{5, 6, 7, 0})
	cut(t, two, plan(t, three, 7, 1), b, []byte{1, 2}, []byte{3, 4}, []byte{5, 6}, []byte{7, 0})
	cut(t, three, plan(t, two, 7, 1), b, []byte{1, 2, 3, 4, 5, 6}, []byte{7, 0, 0, 0, 0, 0})
	cut(t, three, plan(t, two, 7, 3), b, []byte{1, 2, 3, 4, 5, 6, 7, 0, 0, 0, 0, 0, 0, 0, 0, 0, 0, 0})
	cut(t, three, plan(t, two, 0, 3), nil)
}

func TestJoinByHand(t *testing.T) {
	c := code(t, 3, 2)
	joined(t, c, plan(t, c, 5, 2), [][]byte{{1, 2, 3, 4}, {5, 0, 0, 0}}, 1, 2, 3, 4, 5)
	joined(t, c, plan(t, c, 8, 2), [][]byte{{1, 2, 3, 4}, {5, 6, 7, 8}}, 1, 2, 3, 4, 5, 6, 7, 8)
	joined(t, c, plan(t, c, 4, 2), [][]byte{{4, 3, 2, 1}}, 4, 3, 2, 1)
	joined(t, c, plan(t, c, 1, 2), [][]byte{{9, 0}}, 9)
	// What is after the object is cut off, whatever it is.
	joined(t, c, plan(t, c, 5, 2), [][]byte{{1, 2, 3, 4}, {5, 6, 7, 8}}, 1, 2, 3, 4, 5)
	joined(t, c, plan(t, c, 1, 2), [][]byte{{0, 7}}, 0)
	// Zeros of the object are not.
	joined(t, c, plan(t, c, 7, 2), [][]byte{{0, 0, 0, 0}, {0, 0, 0, 9}}, 0, 0, 0, 0, 0, 0, 0)
}

func TestJoinOfNoBytes(t *testing.T) {
	for _, c := range codes(t) {
		p := plan(t, c, 0, 3)
		joined(t, c, p, nil)
		joined(t, c, p, [][]byte{})
		refusedJoin(t, c, p, [][]byte{nil})
		refusedJoin(t, c, p, [][]byte{make([]byte, p.Message(c))})
	}
}

// zeros makes so many stripes of so many bytes.
func zeros(count, length int) [][]byte {
	l := make([][]byte, count)
	for i := range l {
		l[i] = make([]byte, length)
	}
	return l
}

func TestJoinOfANilCode(t *testing.T) {
	for _, c := range codes(t) {
		for _, length := range []int{0, 1, 2, 5, 56, 64} {
			p := plan(t, c, length, 2)
			refusedJoin(t, nil, p, zeros(p.Count, p.Message(c)))
			refusedJoin(t, nil, p, zeros(p.Count, 0))
			refusedJoin(t, nil, p, nil)
		}
	}
	refusedJoin(t, nil, Plan{}, nil)
	refusedJoin(t, nil, Plan{}, [][]byte{nil})
}

func TestJoinOfWrongCounts(t *testing.T) {
	for _, c := range codes(t) {
		for _, count := range []int{1, 2, 3, 32} {
			message := symbols(c) * 2
			for _, length := range []int{count*message - message + 1, count*message - 1, count * message} {
				if length > 16384 {
					continue
				}
				p := plan(t, c, length, 2)
				all := zeros(count+1, p.Message(c))
				joined(t, c, p, all[:count], make([]byte, length)...)
				refusedJoin(t, c, p, all)
				refusedJoin(t, c, p, all[:count-1])
				refusedJoin(t, c, p, nil)
				refusedJoin(t, c, p, append(slices.Clone(all[:count]), nil))
				refusedJoin(t, c, p, append([][]byte{{}}, all[:count]...))
			}
		}
	}
}

// Each of the stripes is to have the right length, also where all together have enough.
func TestJoinOfWrongLengths(t *testing.T) {
	for _, c := range codes(t) {
		message := symbols(c) * 3
		for _, length := range []int{3*message - 2*symbols(c), 3*message - 1, 3 * message} {
			p := plan(t, c, length, 3)
			for wrong := range 3 {
				for _, size := range []int{0, 1, symbols(c), message - 1, message + 1, message + symbols(c), 2 * message} {
					l := zeros(3, message)
					l[wrong] = make([]byte, size)
					refusedJoin(t, c, p, l)
				}
				l := zeros(3, message)
				l[wrong] = nil
				refusedJoin(t, c, p, l)
				l[wrong], l[(wrong+1)%3] = make([]byte, message-1), make([]byte, message+1)
				refusedJoin(t, c, p, l)
			}
			joined(t, c, p, zeros(3, message), make([]byte, length)...)
		}
		// A shorter object has shorter stripes than its piece asked for.
		p := plan(t, c, 1, 3)
		refusedJoin(t, c, p, zeros(1, message))
		refusedJoin(t, c, p, zeros(1, symbols(c)-1))
		refusedJoin(t, c, p, zeros(1, symbols(c)+1))
		refusedJoin(t, c, p, zeros(1, 1))
		joined(t, c, p, zeros(1, symbols(c)), 0)
	}
}

func TestJoinOfTheZeroPlan(t *testing.T) {
	for _, c := range codes(t) {
		joined(t, c, Plan{}, nil)
		joined(t, c, Plan{}, [][]byte{})
		refusedJoin(t, c, Plan{}, [][]byte{nil})
		refusedJoin(t, c, Plan{}, [][]byte{{}, {}})
		refusedJoin(t, c, Plan{}, [][]byte{{1}})
		refusedJoin(t, c, Plan{}, zeros(1, symbols(c)))
	}
}

// The plan of a code with longer messages asks for more bytes than the stripes of another code have.
func TestJoinOfTooFewBytes(t *testing.T) {
	two, three, four := code(t, 3, 2), code(t, 6, 3), code(t, 7, 4)
	p := plan(t, three, 24, 4)
	refusedJoin(t, two, p, zeros(1, 8))
	refusedJoin(t, two, plan(t, three, 9, 2), zeros(1, 4))
	refusedJoin(t, two, plan(t, three, 25, 4), zeros(2, 8))
	refusedJoin(t, three, plan(t, four, 48, 4), zeros(1, 24))
	// Three stripes of 42 bytes are just long enough for 126 bytes, and one byte too short for 127.
	seven, eight := code(t, 13, 7), code(t, 15, 8)
	joined(t, seven, plan(t, eight, 126, 1), zeros(3, 42), make([]byte, 126)...)
	joined(t, seven, plan(t, eight, 125, 1), zeros(3, 42), make([]byte, 125)...)
	refusedJoin(t, seven, plan(t, eight, 127, 1), zeros(3, 42))
	// The plan of 5 bytes with pieces of 1 has one stripe of 6 bytes for k = 3, and one of 2 for k = 2.
	refusedJoin(t, two, plan(t, three, 5, 1), zeros(1, 2))
	refusedJoin(t, two, plan(t, three, 3, 1), zeros(1, 2))
	joined(t, two, plan(t, three, 2, 1), [][]byte{{8, 9}}, 8, 9)
	joined(t, two, plan(t, three, 1, 1), [][]byte{{8, 9}}, 8)
}

// With the plan of a code with shorter messages, whole stripes may be after the object.
func TestJoinCutsOffWholeStripes(t *testing.T) {
	two, three := code(t, 3, 2), code(t, 6, 3)
	l := [][]byte{{1, 2, 3, 4, 5, 6}, {7, 8, 9, 10, 11, 12}, {13, 14, 15, 16, 17, 18}}
	joined(t, three, plan(t, two, 5, 1), l, 1, 2, 3, 4, 5)
	joined(t, three, plan(t, two, 6, 1), l, 1, 2, 3, 4, 5, 6)
	// Also those that are cut off are to be there, and to have the right length.
	refusedJoin(t, three, plan(t, two, 5, 1), l[:2])
	refusedJoin(t, three, plan(t, two, 5, 1), l[:1])
	l[2] = l[2][:5]
	refusedJoin(t, three, plan(t, two, 5, 1), l)
}

// The chapter does not say what plans lead to that Of does not return, only that calls end and do not panic.
func TestPlansOfNoObjectEnd(t *testing.T) {
	numbers := []int{math.MinInt, -1 << 62, -257, -1, 0, 1, 2, 5, 256, 257, 1 << 32, 1 << 61, 1 << 62, math.MaxInt}
	for _, c := range append(codes(t), nil, &msr.Code{}) {
		for _, length := range numbers {
			for _, count := range []int{math.MinInt, -1, 0, 1, 2, math.MaxInt} {
				for _, piece := range numbers {
					p := Plan{Length: length, Count: count, Piece: piece}
					p.Message(c)
					p.Shard(c)
					for _, size := range []int{0, 1, 2, 5} {
						Cut(c, p, make([]byte, size))
						Join(c, p, zeros(size, c.Symbols()))
						Join(c, p, zeros(1, size))
					}
				}
			}
		}
	}
	Of(&msr.Code{}, 5, 2)
	Spread(&msr.Code{}, 2, []byte{1, 2, 3, 4, 5})
}

// P8.3

// With k = 2 and n = 3, the message 5, 7 has the shards 5, 2 and 11.
func TestSpreadByHand(t *testing.T) {
	c := code(t, 3, 2)
	p, l, e := Spread(c, 1, []byte{5, 7, 0, 0, 5})
	if e != api.OK || p != (Plan{Length: 5, Count: 3, Piece: 1}) || len(l) != 3 {
		t.Fatalf("%v, %v, %d", p, l, e)
	}
	want := [][][]byte{{{5}, {2}, {11}}, {{0}, {0}, {0}}, {{5}, {5}, {5}}} // the last message is 5, 0
	for i := range want {
		if !sameLists(l[i], want[i]) {
			t.Errorf("stripe %d: %v, want %v", i, l[i], want[i])
		}
	}
}

// spread makes the plan and the shards of an object that is known to be fit.
func spread(t *testing.T, c *msr.Code, piece int, b []byte) (Plan, [][][]byte) {
	t.Helper()
	p, l, e := Spread(c, piece, b)
	if e != api.OK {
		t.Fatalf("k %d: Spread(%d, %d bytes): %v, %d stripes, %d", c.K(), piece, len(b), p, len(l), e)
	}
	return p, l
}

// spreadOut checks that Spread returns the plan of the object, and of each stripe what Encode returns for it.
func spreadOut(t *testing.T, c *msr.Code, piece int, b []byte) {
	t.Helper()
	p, l := spread(t, c, piece, b)
	if want := plan(t, c, len(b), piece); p != want {
		t.Errorf("k %d: Spread(%d, %d bytes): %v, want %v", c.K(), piece, len(b), p, want)
	}
	stripes := divided(b, symbols(c)*p.Piece)
	if len(l) != len(stripes) || len(l) != p.Count {
		t.Fatalf("k %d: Spread(%d, %d bytes): shards of %d stripes, want %d", c.K(), piece, len(b), len(l), len(stripes))
	}
	for i, s := range stripes {
		want, e := c.Encode(s)
		if e != api.OK || !sameLists(l[i], want) {
			t.Errorf("k %d: Spread(%d, %d bytes): stripe %d: %v, want %v, %d", c.K(), piece, len(b), i, l[i], want, e)
		}
		for slot, shard := range l[i] {
			if len(shard) != p.Shard(c) {
				t.Errorf("k %d: slot %d of stripe %d has %d bytes, want %d", c.K(), slot, i, len(shard), p.Shard(c))
			}
		}
	}
}

func TestSpreadOfEveryCode(t *testing.T) {
	d := dice(2)
	for _, c := range everyCode(t) {
		m := symbols(c)
		for _, length := range []int{0, 1, m - 1, m, m + 1, 3*m - 1, 3 * m, 3*m + 1, 5 * m, 6*m + 1} {
			spreadOut(t, c, 3, d.list(length))
			spreadOut(t, c, 1, d.list(length))
		}
	}
}

func TestSpreadOfManyBytes(t *testing.T) {
	d := dice(3)
	for _, c := range codes(t) {
		for _, length := range []int{511, 512, 513, 16383, 16384} {
			spreadOut(t, c, 256, d.list(length))
		}
		spreadOut(t, c, 1, d.list(32*symbols(c)))
	}
}

func TestSpreadOfNoBytes(t *testing.T) {
	for _, c := range everyCode(t) {
		for _, b := range [][]byte{nil, {}, []byte{1, 2}[:0]} {
			p, l, e := Spread(c, 256, b)
			if e != api.OK || p != (Plan{Piece: 256}) || len(l) != 0 {
				t.Errorf("k %d: %v, %d stripes, %d", c.K(), p, len(l), e)
			}
		}
	}
}

func TestSpreadOfANilCode(t *testing.T) {
	for _, piece := range []int{-1, 0, 1, 2, 256, 257} {
		for _, length := range []int{0, 1, 4, 16384, 16385} {
			refusedSpread(t, nil, piece, make([]byte, length), api.ErrArg)
		}
		refusedSpread(t, nil, piece, nil, api.ErrArg)
	}
}

func TestSpreadWithWrongPieces(t *testing.T) {
	for _, c := range codes(t) {
		for _, piece := range wrongPieces() {
			for _, length := range []int{0, 1, 4, 16384, 16385} {
				refusedSpread(t, c, piece, make([]byte, length), api.ErrArg)
			}
		}
	}
}

func TestSpreadOfTooLongObjects(t *testing.T) {
	for _, c := range codes(t) {
		for _, length := range []int{16385, 16386, 40000} {
			for _, piece := range []int{1, 255, 256} {
				refusedSpread(t, c, piece, make([]byte, length), api.ErrLong)
			}
		}
		for _, piece := range []int{1, 2, 9} {
			refusedSpread(t, c, piece, make([]byte, 32*symbols(c)*piece+1), api.ErrLong) // a stripe too many
		}
	}
	refusedSpread(t, code(t, 3, 2), 255, make([]byte, 16384), api.ErrLong)
}

// P8.4

// back checks that Join returns what Cut divided.
func back(t *testing.T, c *msr.Code, piece int, b []byte) {
	t.Helper()
	p := plan(t, c, len(b), piece)
	l, e := Cut(c, p, b)
	if e != api.OK || len(l) != p.Count {
		t.Fatalf("k %d: Cut(%v): %d stripes, %d", c.K(), p, len(l), e)
	}
	if got, e := Join(c, p, l); e != api.OK || !bytes.Equal(got, b) {
		t.Errorf("k %d: Join(%v) has not returned what Cut divided: %d bytes, %d", c.K(), p, len(got), e)
	}
}

func TestJoinReturnsWhatCutDivided(t *testing.T) {
	d := dice(4)
	for _, c := range everyCode(t) {
		for _, piece := range []int{1, 2, 64, 256} {
			for _, length := range lengths(c, piece) {
				back(t, c, piece, d.list(length))
				back(t, c, piece, make([]byte, length))
			}
		}
	}
}

func TestJoinReturnsWhatCutDividedForEveryLength(t *testing.T) {
	d := dice(5)
	for _, c := range codes(t) {
		b := d.list(1000)
		for length := range b {
			back(t, c, 16, b[:length])
			back(t, c, 256, b[:length])
		}
	}
}

func TestJoinReturnsWhatCutDividedForEveryPiece(t *testing.T) {
	d := dice(6)
	for _, c := range codes(t) {
		for piece := 1; piece <= 256; piece++ {
			back(t, c, piece, d.list(min(5*symbols(c)*piece-1, 16384)))
		}
	}
}

// Of each stripe that Spread encoded, k shards suffice to have the object back.
func TestJoinReturnsWhatSpreadEncoded(t *testing.T) {
	d := dice(7)
	for _, c := range codes(t) {
		for _, length := range []int{1, symbols(c), 2*symbols(c) + 1, 9*symbols(c) - 1, 9 * symbols(c)} {
			b := d.list(length)
			p, shards := spread(t, c, 3, b)
			var l [][]byte
			for _, s := range shards {
				var parts []msr.Part
				for i := range c.K() {
					slot := (i*2 + 1) % c.N() // n is odd, so that no slot occurs twice
					parts = append(parts, msr.Part{Slot: slot, Data: s[slot]})
				}
				m, e := c.Decode(parts)
				if e != api.OK {
					t.Fatal(e)
				}
				l = append(l, m)
			}
			joined(t, c, p, l, b...)
		}
	}
}

// Memory

// roomy returns a slice with these bytes and others behind its end, and all of its memory.
func roomy(l []byte) (slice, memory []byte) {
	memory = append(bytes.Clone(l), bytes.Repeat([]byte{201, 202, 203, 204}, 100)...)
	return memory[:len(l)], memory
}

// roomyStripes returns stripes with other memory behind the end of the list and of each of them, and all of that memory.
func roomyStripes(l [][]byte) (list, all, memory [][]byte) {
	for _, s := range l {
		s, m := roomy(s)
		all, memory = append(all, s), append(memory, m)
	}
	spare := []byte{209, 210}
	all = append(all, spare, spare[:1])
	return all[:len(l)], all, append(memory, spare)
}

// scrawl writes over a slice and all that is behind its end.
func scrawl(l []byte) {
	l = l[:cap(l)]
	for i := range l {
		l[i] = ^l[i]
	}
}

// copied returns lists in memory of their own.
func copied(l [][]byte) [][]byte {
	var c [][]byte
	for _, b := range l {
		c = append(c, bytes.Clone(b))
	}
	return c
}

// objects makes objects with pieces of 2: none, short, with full stripes and with one that is padded.
func objects(d *dice, c *msr.Code) [][]byte {
	m := symbols(c)
	var l [][]byte
	for _, length := range []int{0, 1, m, 2*m - 1, 2 * m, 2*m + 1, 6*m - 1, 6 * m} {
		l = append(l, d.list(length))
	}
	return l
}

func TestCutAndSpreadChangeNoArgument(t *testing.T) {
	d := dice(8)
	for _, c := range codes(t) {
		for _, object := range objects(&d, c) {
			b, memory := roomy(object)
			before := bytes.Clone(memory)
			p := plan(t, c, len(b), 2)
			for _, c := range []*msr.Code{c, nil} {
				Cut(c, p, b)
				Cut(c, Plan{}, b)
				Cut(c, Plan{Length: len(b) + 1, Count: 1, Piece: 256}, b)
				Spread(c, 2, b)
				Spread(c, 257, b)
			}
			if !bytes.Equal(memory, before) {
				t.Errorf("k %d: the %d bytes handed in have changed", c.K(), len(b))
			}
		}
	}
}

func TestJoinChangesNoArgument(t *testing.T) {
	d := dice(9)
	for _, c := range codes(t) {
		for _, object := range objects(&d, c) {
			p := plan(t, c, len(object), 2)
			list, all, memory := roomyStripes(divided(object, p.Message(c)))
			beforeList, beforeMemory := copied(all), copied(memory)
			joined(t, c, p, list, object...)
			for _, c := range []*msr.Code{c, nil, code(t, 24, 2), code(t, 24, 8)} {
				Join(c, p, list)
				Join(c, Plan{}, list)
				Join(c, Plan{Length: p.Length, Count: p.Count + 1, Piece: p.Piece}, list)
				Join(c, Plan{Length: 16384, Count: p.Count, Piece: p.Piece}, list)
			}
			if !sameLists(all, beforeList) || !sameLists(memory, beforeMemory) {
				t.Errorf("k %d: the stripes of %d bytes have changed", c.K(), len(object))
			}
		}
	}
}

// apart checks that lists share no memory, by writing over one after the other.
func apart(t *testing.T, l [][]byte) {
	t.Helper()
	want := copied(l)
	for i, b := range l {
		scrawl(b)
		for j := i + 1; j < len(l); j++ {
			if !bytes.Equal(l[j], want[j]) {
				t.Fatalf("list %d has changed with list %d", j, i)
			}
		}
	}
}

func TestStripesAreApart(t *testing.T) {
	d := dice(10)
	for _, c := range codes(t) {
		for _, object := range objects(&d, c) {
			p := plan(t, c, len(object), 2)
			want := divided(object, p.Message(c))
			b, memory := roomy(object)
			first, _ := Cut(c, p, b)
			second, _ := Cut(c, p, b)
			scrawl(b)
			if !sameLists(first, want) {
				t.Fatalf("k %d: the stripes have changed with the object", c.K())
			}
			before := bytes.Clone(memory)
			apart(t, append(slices.Clone(first), second...))
			if !bytes.Equal(memory, before) {
				t.Errorf("k %d: the object has changed with the stripes", c.K())
			}
			cut(t, c, p, object, want...) // whatever was written over what was returned before
		}
	}
}

func TestObjectsAreApart(t *testing.T) {
	d := dice(11)
	for _, c := range codes(t) {
		for _, object := range objects(&d, c) {
			p := plan(t, c, len(object), 2)
			list, all, memory := roomyStripes(divided(object, p.Message(c)))
			first, _ := Join(c, p, list)
			second, _ := Join(c, p, list)
			for _, m := range memory {
				scrawl(m)
			}
			if !bytes.Equal(first, object) {
				t.Fatalf("k %d: the object has changed with the stripes", c.K())
			}
			beforeList, beforeMemory := copied(all), copied(memory)
			apart(t, [][]byte{first, second})
			if !sameLists(all, beforeList) || !sameLists(memory, beforeMemory) {
				t.Errorf("k %d: the stripes have changed with the object", c.K())
			}
			joined(t, c, p, divided(object, p.Message(c)), object...)
		}
	}
}

// The bytes after an object are cut off, so that they are not found behind its end either.
func TestNothingIsBehindAnObject(t *testing.T) {
	d := dice(12)
	for _, c := range codes(t) {
		for _, object := range objects(&d, c) {
			p := plan(t, c, len(object), 2)
			b, e := Join(c, p, divided(object, p.Message(c)))
			if e != api.OK || cap(b) != len(object) {
				t.Errorf("k %d: %d bytes with a capacity of %d, %d", c.K(), len(b), cap(b), e)
			}
		}
	}
}

// flat returns the shards of all stripes in one list.
func flat(l [][][]byte) [][]byte {
	return slices.Concat(l...)
}

func TestShardsAreApart(t *testing.T) {
	d := dice(13)
	for _, c := range codes(t) {
		for _, object := range objects(&d, c) {
			b, memory := roomy(object)
			_, first := spread(t, c, 2, b)
			_, second := spread(t, c, 2, b)
			want := copied(flat(first))
			scrawl(b)
			if !sameLists(flat(first), want) {
				t.Fatalf("k %d: the shards have changed with the object", c.K())
			}
			before := bytes.Clone(memory)
			apart(t, append(flat(first), flat(second)...))
			if !bytes.Equal(memory, before) {
				t.Errorf("k %d: the object has changed with the shards", c.K())
			}
			if _, third := spread(t, c, 2, object); !sameLists(flat(third), want) {
				t.Errorf("k %d: the shards have changed with those returned before", c.K())
			}
		}
	}
}

// The results of a call depend on its arguments alone, not on the calls before.
func TestCallsBeforeDoNotMatter(t *testing.T) {
	d := dice(14)
	for _, c := range codes(t) {
		b := d.list(7*symbols(c) - 1)
		want := Plan{Length: len(b), Count: 4, Piece: 2}
		planned(t, c, len(b), 2, want)
		stripes := divided(b, 2*symbols(c))
		cut(t, c, want, b, stripes...)
		joined(t, c, want, stripes, b...)
		_, shards := spread(t, c, 2, b)

		refusedOf(t, c, -1, 2, api.ErrArg)
		refusedOf(t, c, 16385, 2, api.ErrLong)
		refusedCut(t, c, want, b[1:])
		refusedJoin(t, c, want, stripes[1:])
		refusedSpread(t, c, 0, b, api.ErrArg)
		back(t, c, 5, d.list(3))
		back(t, code(t, 24, 2), 256, d.list(16384))

		planned(t, c, len(b), 2, want)
		cut(t, c, want, b, stripes...)
		joined(t, c, want, stripes, b...)
		if p, again := spread(t, code(t, c.N(), c.K()), 2, b); p != want || !sameLists(flat(again), flat(shards)) {
			t.Errorf("k %d: Spread has changed with the calls before: %v", c.K(), p)
		}
	}
}
