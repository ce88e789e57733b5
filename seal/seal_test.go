package seal

import (
	"bytes"
	"encoding/binary"
	"fmt"
	"hash/crc32"
	"math"
	"slices"
	"testing"

	"coldframe/api"
)

// reference makes the sums that those of the package are held against.
var reference = crc32.MakeTable(crc32.Castagnoli)

// dice makes numbers that look as if they were random; the seed tells which.
type dice uint64

// next returns a number of 32 bits.
func (d *dice) next() uint32 {
	*d = *d*6364136223846793005 + 1442695040888963407
	return uint32(*d >> 32)
}

// bytes makes n bytes.
func (d *dice) bytes(n int) []byte {
	b := make([]byte, n)
	for i := range b {
		b[i] = byte(d.next() >> 24)
	}
	return b
}

// everyByte makes all 256 bytes, in order.
func everyByte() []byte {
	b := make([]byte, 256)
	for i := range b {
		b[i] = byte(i)
	}
	return b
}

// join puts bytes one behind the other, in memory of their own.
func join(l ...[]byte) []byte {
	return bytes.Join(l, nil)
}

// raw makes the bytes of a frame with these numbers, fit or not, whose sum is right.
func raw(mark, kind uint16, count uint32, load []byte) []byte {
	b := binary.LittleEndian.AppendUint16(nil, mark)
	b = binary.LittleEndian.AppendUint16(b, kind)
	b = binary.LittleEndian.AppendUint32(b, count)
	sum := crc32.Update(crc32.Checksum(b, reference), reference, load)
	return append(binary.LittleEndian.AppendUint32(b, sum), load...)
}

// frame makes the bytes of a frame, without the package's help.
func frame(kind uint16, load []byte) []byte {
	return raw(0xCF1D, kind, uint32(len(load)), load)
}

// turned makes b with one bit turned; the bits are counted from the lowest one of the first byte on.
func turned(b []byte, bit int) []byte {
	b = slices.Clone(b)
	b[bit/8] ^= 1 << (bit % 8)
	return b
}

// opens checks that b begins with the frame of this kind and load.
func opens(t *testing.T, what string, b []byte, kind uint16, load []byte) {
	t.Helper()
	k, l, size, e := Open(b)
	if e != api.OK || k != kind || !bytes.Equal(l, load) || size != 12+len(load) {
		t.Errorf("%s: kind %d, %d bytes, size %d, error %d; want kind %d, %d bytes", what, k, len(l), size, e, kind, len(load))
	}
}

// fails checks that b is not opened, for this reason, and that there is nothing but zero values.
func fails(t *testing.T, what string, b []byte, want api.Errno) {
	t.Helper()
	k, l, size, e := Open(b)
	if e != want || k != 0 || len(l) != 0 || size != 0 {
		t.Errorf("%s: kind %d, %d bytes, size %d, error %d; want error %d alone", what, k, len(l), size, e, want)
	}
}

// scans checks that b begins with these frames, and how many bytes they are together.
func scans(t *testing.T, what string, b []byte, want ...Item) {
	t.Helper()
	l, size := Scan(b)
	end := 0
	for _, x := range want {
		end = x.At + 12 + len(x.Load)
	}
	if size != end || !slices.EqualFunc(l, want, sameItem) {
		t.Errorf("%s: %d frames, %d bytes: %.200s; want %d frames, %d bytes", what, len(l), size, fmt.Sprint(l), len(want), end)
	}
}

func sameItem(a, b Item) bool {
	return a.At == b.At && a.Kind == b.Kind && bytes.Equal(a.Load, b.Load)
}

// items makes what Scan is to tell of frames with these loads, and these frames. The kinds differ.
func items(loads ...[]byte) ([]Item, []byte) {
	var l []Item
	var b []byte
	for i, load := range loads {
		kind := uint16(i*777 + 1)
		l = append(l, Item{At: len(b), Kind: kind, Load: load})
		b = append(b, frame(kind, load)...)
	}
	return l, b
}

// P10.1

// The iSCSI examples are those of RFC 3720, B.4.
func TestSumByHand(t *testing.T) {
	down := everyByte()[:32]
	slices.Reverse(down)
	read := slices.Concat([]byte{1, 0xc0}, make([]byte, 14), []byte{0x14}, make([]byte, 5), []byte{4}, make([]byte, 4),
		[]byte{0x14, 0, 0, 0, 0x18, 0x28}, make([]byte, 7), []byte{2}, make([]byte, 7))
	for _, c := range []struct {
		what string
		b    []byte
		want uint32
	}{
		{"nil", nil, 0},
		{"no bytes", []byte{}, 0},
		{"the chapter's example", []byte("123456789"), 0xE3069283},
		{"one byte", []byte("a"), 0xC1D04330},
		{"one zero", []byte{0}, 0x527D5351},
		{"32 zeros", make([]byte, 32), 0x8A9136AA},
		{"32 bytes of ones", bytes.Repeat([]byte{255}, 32), 0x62A8AB43},
		{"0 to 31", everyByte()[:32], 0x46DD794E},
		{"31 to 0", down, 0x113FDB5C},
		{"an iSCSI command", read, 0xD9963A56},
		{"all 256 bytes", everyByte(), 0x9C44184B},
		{"four bytes of ones", []byte{255, 255, 255, 255}, 0xFFFFFFFF},
	} {
		if got := Sum(c.b); got != c.want {
			t.Errorf("Sum of %s: %X, want %X", c.what, got, c.want)
		}
	}
}

// The polynomial itself, without its highest bit, is left of a single bit that is as far ahead of the end as its degree.
func TestSumIsTheRestOfADivision(t *testing.T) {
	for length := range 20 {
		for bit := range 8 * length {
			zeros := make([]byte, length)
			if got, want := Sum(turned(zeros, bit))^Sum(zeros), restOf(8*length-bit+31); got != want {
				t.Errorf("bit %d of %d bytes: %X, want %X", bit, length, got, want)
			}
		}
	}
}

// restOf divides x to the power n, for n above 31, by the polynomial, and returns the rest's bits in reverse order.
func restOf(n int) uint32 {
	rest := uint64(1) << 31
	for range n - 31 {
		rest <<= 1
		if rest>>32 == 1 {
			rest ^= 0x11EDC6F41
		}
	}
	var reversed uint32
	for i := range 32 {
		reversed |= uint32(rest>>i&1) << (31 - i)
	}
	return reversed
}

func TestSumOfEachByte(t *testing.T) {
	for x := range 256 {
		for _, b := range [][]byte{{byte(x)}, {0, byte(x)}, {byte(x), 0}, {byte(x), byte(x), 255}} {
			if got, want := Sum(b), crc32.Checksum(b, reference); got != want {
				t.Errorf("Sum of %v: %X, want %X", b, got, want)
			}
		}
	}
}

func TestSumOfManyBytes(t *testing.T) {
	d := dice(1)
	b := d.bytes(1 << 20)
	for _, n := range append(upTo(600), 4095, 4096, 65535, 65536, 65537, 1<<20) {
		if got, want := Sum(b[:n]), crc32.Checksum(b[:n], reference); got != want {
			t.Errorf("Sum of %d bytes: %X, want %X", n, got, want)
		}
	}
}

// upTo makes the numbers from 0 to n - 1.
func upTo(n int) []int {
	l := make([]int, n)
	for i := range l {
		l[i] = i
	}
	return l
}

func TestGoFromNothing(t *testing.T) {
	d := dice(2)
	for _, b := range [][]byte{nil, {}, {0}, {255}, []byte("123456789"), everyByte(), d.bytes(5000)} {
		if got, want := Go(Sum(nil), b), crc32.Checksum(b, reference); got != want {
			t.Errorf("Go of the Sum of no bytes and %d bytes: %X, want %X", len(b), got, want)
		}
	}
}

func TestGoWithNothingBehind(t *testing.T) {
	d := dice(3)
	sums := []uint32{0, 1, 1 << 31, math.MaxInt32, math.MaxUint32 - 1, math.MaxUint32, 0xE3069283}
	for range 100 {
		sums = append(sums, d.next())
	}
	for _, sum := range sums {
		if a, b := Go(sum, nil), Go(sum, []byte{}); a != sum || b != sum {
			t.Errorf("Go of %X and no bytes: %X, %X", sum, a, b)
		}
	}
}

func TestGoOfEveryBeginning(t *testing.T) {
	d := dice(4)
	for _, b := range [][]byte{{7}, []byte("123456789"), make([]byte, 40), bytes.Repeat([]byte{255}, 40), everyByte(), d.bytes(1000)} {
		want := crc32.Checksum(b, reference)
		for n := range len(b) + 1 {
			if got := Go(Sum(b[:n]), b[n:]); got != want {
				t.Errorf("%d bytes, cut at %d: %X, want %X", len(b), n, got, want)
			}
		}
		sum := Sum(nil)
		for i := range b {
			sum = Go(sum, b[i:i+1])
		}
		if sum != want {
			t.Errorf("%d bytes, one by one: %X, want %X", len(b), sum, want)
		}
	}
}

// Different bytes may have one sum, and what stands behind them counts from that sum alone.
func TestGoOfAnySum(t *testing.T) {
	if got, want := Go(math.MaxUint32, []byte("abc")), Sum([]byte("\xff\xff\xff\xffabc")); got != want {
		t.Errorf("%X, want %X", got, want)
	}
	d := dice(5)
	for range 300 {
		ahead, b := d.bytes(4), d.bytes(int(d.next()%20))
		if got, want := Go(crc32.Checksum(ahead, reference), b), crc32.Checksum(join(ahead, b), reference); got != want {
			t.Errorf("%v behind %v: %X, want %X", b, ahead, got, want)
		}
	}
}

// P10.2

func TestFrameByHand(t *testing.T) {
	for _, c := range []struct {
		kind uint16
		load []byte
		want []byte
	}{
		{7, []byte("hello"), []byte{0x1D, 0xCF, 7, 0, 5, 0, 0, 0, 0xEC, 0x0A, 0xE6, 0x65, 'h', 'e', 'l', 'l', 'o'}},
		{0x1234, nil, []byte{0x1D, 0xCF, 0x34, 0x12, 0, 0, 0, 0, 0xB5, 0xAB, 0x58, 0xF6}},
	} {
		if got := Frame(c.kind, c.load); !bytes.Equal(got, c.want) {
			t.Errorf("Frame(%d, %q): % X, want % X", c.kind, c.load, got, c.want)
		}
	}
}

// kinds are the edges of what 2 bytes hold, and some with two different bytes.
func kinds() []uint16 {
	return []uint16{0, 1, 2, 255, 256, 257, 0x0102, 0xCF1D, 65534, 65535}
}

// lengths are those whose numbers have different bytes, and the edges of what a frame bears.
func lengths() []int {
	return []int{0, 1, 2, 11, 12, 13, 255, 256, 257, 258, 4096, 65535, 65536}
}

func TestFrame(t *testing.T) {
	d := dice(6)
	for _, n := range lengths() {
		for _, load := range [][]byte{d.bytes(n), make([]byte, n), bytes.Repeat([]byte{255}, n)} {
			for _, kind := range kinds() {
				if got, want := Frame(kind, load), frame(kind, load); !bytes.Equal(got, want) {
					t.Errorf("Frame(%d, %d bytes): %d bytes, begins with % X; want % X", kind, n, len(got), got[:min(12, len(got))], want[:12])
				}
			}
		}
	}
	if nothing, empty := Frame(9, nil), Frame(9, []byte{}); !bytes.Equal(nothing, empty) {
		t.Error("nil and no bytes have different frames")
	}
}

func TestFrameOfEachKind(t *testing.T) {
	for kind := range 1 << 16 {
		if got, want := Frame(uint16(kind), []byte{1}), frame(uint16(kind), []byte{1}); !bytes.Equal(got, want) {
			t.Fatalf("kind %d: % X, want % X", kind, got, want)
		}
	}
}

func TestFrameOfTooManyBytes(t *testing.T) {
	for _, n := range []int{65537, 65538, 1 << 17, 1<<20 + 5} {
		for _, kind := range kinds() {
			if got := Frame(kind, make([]byte, n)); len(got) != 0 {
				t.Errorf("%d bytes are framed in %d", n, len(got))
			}
		}
	}
}

func TestConstants(t *testing.T) {
	if Head != 12 || Most != 65536 {
		t.Error(Head, Most)
	}
}

func TestOpenOfTooFewBytes(t *testing.T) {
	fails(t, "nil", nil, api.ErrForm)
	fails(t, "no bytes", []byte{}, api.ErrForm)
	for _, load := range [][]byte{nil, {1}, []byte("hello")} {
		b := frame(7, load)
		for n := range b {
			fails(t, fmt.Sprintf("%d of %d bytes", n, len(b)), b[:n], api.ErrForm)
			fails(t, fmt.Sprintf("%d of %d bytes alone", n, len(b)), slices.Clip(b[:n:n]), api.ErrForm)
		}
		opens(t, "all bytes", b, 7, load)
	}
	for n := range 40 {
		fails(t, "zeros", make([]byte, n), api.ErrForm)
	}
}

// These frames are written out, so that the test does not hang on how the others are made.
func TestOpenByHand(t *testing.T) {
	opens(t, "12 bytes", []byte{0x1D, 0xCF, 0x34, 0x12, 0, 0, 0, 0, 0xB5, 0xAB, 0x58, 0xF6}, 0x1234, nil)
	opens(t, "17 bytes", []byte{0x1D, 0xCF, 7, 0, 5, 0, 0, 0, 0xEC, 0x0A, 0xE6, 0x65, 'h', 'e', 'l', 'l', 'o'}, 7, []byte("hello"))
}

func TestOpenWithBytesBehind(t *testing.T) {
	d := dice(7)
	for _, load := range [][]byte{nil, {0}, []byte("hello"), d.bytes(65536)} {
		b := frame(300, load)
		for _, behind := range [][]byte{nil, {0}, {255}, make([]byte, 40), b, d.bytes(100), d.bytes(70000)} {
			opens(t, fmt.Sprintf("%d bytes with %d behind", len(b), len(behind)), join(b, behind), 300, load)
		}
	}
}

func TestOpenOfAnotherMark(t *testing.T) {
	for bit := range 16 {
		for _, load := range [][]byte{nil, []byte("hello")} {
			fails(t, fmt.Sprintf("bit %d of the mark turned", bit), turned(frame(7, load), bit), api.ErrForm)
			fails(t, fmt.Sprintf("mark %d with a right sum", bit), raw(0xCF1D^1<<bit, 7, uint32(len(load)), load), api.ErrForm)
		}
	}
	for _, mark := range []uint16{0, 0x1DCF, 0xCFCF, 0x1D1D, 0xCF00, 0x001D, 0xFFFF} {
		fails(t, "another mark", raw(mark, 7, 3, []byte("abc")), api.ErrForm)
	}
}

func TestOpenOfNumbersUpToMost(t *testing.T) {
	d := dice(8)
	b := d.bytes(65536 + 10)
	opens(t, "Most", raw(0xCF1D, 1, 65536, b[:65536]), 1, b[:65536])
	opens(t, "below Most", raw(0xCF1D, 1, 65535, b[:65535]), 1, b[:65535])
	for _, n := range []int{65537, 65538, 65546} {
		fails(t, "above Most, with so many bytes", raw(0xCF1D, 1, uint32(n), b[:n]), api.ErrForm)
		fails(t, "above Most, with more bytes", join(raw(0xCF1D, 1, uint32(n), b[:n]), b), api.ErrForm)
		fails(t, "above Most, without bytes", raw(0xCF1D, 1, uint32(n), nil), api.ErrForm)
	}
	for _, n := range []uint32{1 << 17, 1 << 24, math.MaxInt32 - 12, math.MaxInt32, 1 << 31, math.MaxUint32 - 12, math.MaxUint32 - 11, math.MaxUint32 - 1, math.MaxUint32} {
		for _, load := range [][]byte{nil, b[:1], b[:11], b[:12], b[:65536], b} {
			fails(t, fmt.Sprintf("number %d, with %d bytes", n, len(load)), raw(0xCF1D, 1, n, load), api.ErrForm)
		}
	}
	// with only the lowest two or three bytes of the number, these would be fit
	for _, n := range []uint32{1<<16 + 3, 1<<24 + 3, 1<<31 + 3} {
		fails(t, fmt.Sprintf("number %d, with 3 bytes", n), raw(0xCF1D, 1, n, b[:3]), api.ErrForm)
	}
}

func TestOpenOfNumbersAndBytesBehind(t *testing.T) {
	d := dice(9)
	for _, n := range []int{0, 1, 2, 11, 12, 13, 255, 256, 300, 4096, 65535, 65536} {
		b := d.bytes(n)
		opens(t, fmt.Sprintf("%d bytes", n), raw(0xCF1D, 5, uint32(n), b), 5, b)
		fails(t, fmt.Sprintf("one more than %d bytes", n), raw(0xCF1D, 5, uint32(n)+1, b), api.ErrForm)
		fails(t, fmt.Sprintf("12 more than %d bytes", n), raw(0xCF1D, 5, uint32(n)+12, b), api.ErrForm)
		if n > 0 { // the sum is that of one byte more than the frame bears
			fails(t, fmt.Sprintf("one less than %d bytes", n), raw(0xCF1D, 5, uint32(n)-1, b), api.ErrSum)
		}
	}
}

func TestOpenOfAnotherSum(t *testing.T) {
	d := dice(10)
	for _, load := range [][]byte{nil, {0}, []byte("hello"), d.bytes(65536)} {
		b := frame(65535, load)
		for bit := 8 * 8; bit < 8*12; bit++ {
			fails(t, fmt.Sprintf("bit %d turned", bit), turned(b, bit), api.ErrSum)
			fails(t, fmt.Sprintf("bit %d turned, with bytes behind", bit), join(turned(b, bit), b), api.ErrSum)
		}
		for _, sum := range []uint32{0, math.MaxUint32, Sum(load), Sum(b[:8]), ^Go(Sum(b[:8]), load), Sum(b), Go(Sum(load), b[:8])} {
			if x := binary.LittleEndian.AppendUint32(slices.Clone(b[:8]), sum); sum != binary.LittleEndian.Uint32(b[8:]) {
				fails(t, fmt.Sprintf("sum %X", sum), join(x, load), api.ErrSum)
			}
		}
	}
}

// The sum covers the kind and the number, too.
func TestOpenOfAnotherKindOrNumber(t *testing.T) {
	d := dice(11)
	for _, n := range []int{0, 1, 5, 255, 256, 300, 65536} {
		b := frame(0x00FF, d.bytes(n))
		for bit := 16; bit < 32; bit++ {
			fails(t, fmt.Sprintf("bit %d of the kind turned", bit-16), turned(b, bit), api.ErrSum)
		}
		for bit := range 32 {
			want := api.ErrForm
			if n^1<<bit < n {
				want = api.ErrSum
			}
			fails(t, fmt.Sprintf("bit %d of the number %d turned", bit, n), turned(b, 32+bit), want)
		}
	}
	behind := make([]byte, 70000)
	for bit := range 17 { // with zeros behind, a greater number may be fit, and the sum is not
		fails(t, fmt.Sprintf("bit %d of the number turned, with bytes behind", bit), join(turned(frame(9, nil), 32+bit), behind), api.ErrSum)
	}
}

// With several faults, one of form is told and not one of the sum.
func TestOpenOfSeveralFaults(t *testing.T) {
	good := frame(7, []byte("hello"))
	for bit := 8 * 8; bit < 8*12; bit++ {
		bad := turned(good, bit)
		fails(t, "sum", bad, api.ErrSum)
		fails(t, "sum and kind", turned(bad, 20), api.ErrSum)
		fails(t, "sum and load", turned(bad, 8*12+3), api.ErrSum)
		fails(t, "sum and mark", turned(bad, 0), api.ErrForm)
		fails(t, "sum and mark's second byte", turned(bad, 15), api.ErrForm)
		fails(t, "sum and length", bad[:16], api.ErrForm)
		fails(t, "sum and too few bytes for any frame", bad[:11], api.ErrForm)
		fails(t, "sum and number that is too great", turned(bad, 33), api.ErrForm)
		fails(t, "sum and number above Most", join(turned(bad, 32+17), make([]byte, 1<<18)), api.ErrForm)
		fails(t, "sum and number that is too small", turned(bad, 32), api.ErrSum)
	}
	fails(t, "mark and number", turned(turned(good, 3), 32+31), api.ErrForm)
	fails(t, "mark and too few bytes", turned(good, 3)[:8], api.ErrForm)
	fails(t, "mark and load", turned(turned(good, 3), 8*14), api.ErrForm)
	fails(t, "number and load", turned(turned(good, 32+31), 8*14), api.ErrForm)
	fails(t, "all", bytes.Repeat([]byte{255}, 60), api.ErrForm)
}

// P10.3

func TestScanOfNothing(t *testing.T) {
	scans(t, "nil", nil)
	scans(t, "no bytes", []byte{})
	d := dice(12)
	for n := range 40 {
		scans(t, "no frame", d.bytes(n))
		scans(t, "zeros", make([]byte, n))
	}
}

func TestScanByHand(t *testing.T) {
	b := join(Frame(7, []byte("hello")), Frame(8, nil), []byte{1, 2, 3})
	scans(t, "two frames", b, Item{0, 7, []byte("hello")}, Item{17, 8, nil})
}

func TestScanOfOneFrame(t *testing.T) {
	d := dice(13)
	for _, n := range lengths() {
		load := d.bytes(n)
		for _, kind := range kinds() {
			scans(t, fmt.Sprintf("kind %d, %d bytes", kind, n), frame(kind, load), Item{0, kind, load})
		}
	}
	scans(t, "above Most", raw(0xCF1D, 1, 65537, make([]byte, 65537)))
}

func TestScanOfSeveralFrames(t *testing.T) {
	d := dice(14)
	for n := range 30 {
		var loads [][]byte
		for range n {
			loads = append(loads, d.bytes(int(d.next()%40)))
		}
		l, b := items(loads...)
		scans(t, fmt.Sprintf("%d frames", n), b, l...)
		scans(t, fmt.Sprintf("%d frames and a byte", n), join(b, []byte{0x1D}), l...)
		scans(t, fmt.Sprintf("%d frames and a mark", n), join(b, []byte{0x1D, 0xCF}), l...)
		scans(t, fmt.Sprintf("%d frames and zeros", n), join(b, make([]byte, 50)), l...)
	}
	l, b := items(d.bytes(65536), nil, d.bytes(65536), d.bytes(1))
	scans(t, "long frames", b, l...)
}

func TestScanOfFramesOfNoBytes(t *testing.T) {
	for _, n := range []int{1, 2, 3, 1000, 20000} {
		l, b := items(make([][]byte, n)...)
		scans(t, fmt.Sprintf("%d frames of no bytes", n), b, l...)
		scans(t, fmt.Sprintf("%d frames of no bytes and one of three", n), join(b, frame(4, []byte{1, 2, 3})), append(l, Item{12 * n, 4, []byte{1, 2, 3}})...)
	}
}

func TestScanEndsAtAWrongFrame(t *testing.T) {
	l, b := items([]byte("one"), nil, []byte("three"), []byte("four"))
	for i, x := range l {
		end := x.At + 12 + len(x.Load)
		for bit := 8 * x.At; bit < 8*end; bit++ {
			scans(t, fmt.Sprintf("bit %d turned, in frame %d", bit, i), turned(b, bit), l[:i]...)
		}
		for _, between := range [][]byte{{0}, {0x1D}, frame(1, []byte("x"))[:12], raw(0xCF1E, 1, 0, nil), raw(0xCF1D, 1, 65537, nil), make([]byte, 100)} {
			scans(t, fmt.Sprintf("% X ahead of frame %d", between, i), join(b[:x.At], between, b[x.At:]), l[:i]...)
			scans(t, fmt.Sprintf("% X behind frame %d", between, i), join(b[:end], between, b[end:]), l[:i+1]...)
		}
	}
}

func TestScanOfFramesThatAreCutOff(t *testing.T) {
	l, b := items([]byte("one"), nil, []byte("three"), nil, []byte("four"), make([]byte, 30))
	for n := range len(b) + 1 {
		whole := 0
		for whole < len(l) && l[whole].At+12+len(l[whole].Load) <= n {
			whole++
		}
		scans(t, fmt.Sprintf("the first %d bytes", n), b[:n], l[:whole]...)
		scans(t, fmt.Sprintf("the first %d bytes alone", n), slices.Clone(b[:n]), l[:whole]...)
	}
}

// What a frame bears is not searched, and nor is what stands behind the first wrong frame.
func TestScanOfFramesWithinFrames(t *testing.T) {
	inner := frame(2, []byte("inner"))
	l, b := items(inner, join(inner, inner), join([]byte{7}, inner), frame(3, inner))
	scans(t, "frames in frames", b, l...)
	scans(t, "the first frame's load", b[12:12+len(inner)], Item{0, 2, []byte("inner")})
	for _, bit := range []int{0, 20, 70, 8*12 + 1, 8*len(frame(1, inner)) - 1} {
		scans(t, "the first frame is wrong", turned(b, bit))
	}
	scans(t, "the first frame is cut off ahead", b[1:])
}

// P10.4

func TestWhatIsFramedIsOpened(t *testing.T) {
	d := dice(15)
	for _, n := range append(upTo(300), lengths()...) {
		load := d.bytes(n)
		for _, kind := range []uint16{0, uint16(n), uint16(d.next()), 65535} {
			b := Frame(kind, load)
			opens(t, fmt.Sprintf("kind %d, %d bytes", kind, n), b, kind, load)
			opens(t, fmt.Sprintf("kind %d, %d bytes, with bytes behind", kind, n), join(b, d.bytes(13)), kind, load)
		}
	}
}

func TestEachBitTurned(t *testing.T) {
	d := dice(16)
	for _, n := range []int{1, 2, 3, 4, 5, 8, 64, 300} {
		for _, load := range [][]byte{d.bytes(n), make([]byte, n), bytes.Repeat([]byte{255}, n)} {
			b := Frame(uint16(d.next()), load)
			for bit := range 8 * n {
				fails(t, fmt.Sprintf("bit %d of %d bytes", bit, n), turned(b, 8*12+bit), api.ErrSum)
				fails(t, fmt.Sprintf("bit %d of %d bytes, with bytes behind", bit, n), join(turned(b, 8*12+bit), b), api.ErrSum)
			}
		}
	}
}

// turn turns, in place, the bits of what a frame bears that the pattern tells, from this one on. The bits of a byte are
// counted from the lowest on, the order in which CRC-32C takes them.
func turn(b []byte, from int, pattern uint32) {
	for i := range 32 {
		if bit := 8*12 + from + i; pattern>>i&1 == 1 {
			b[bit/8] ^= 1 << (bit % 8)
		}
	}
}

// turnedAt checks that a frame isn't opened while the bits of a pattern are turned. It leaves the frame as it was.
func turnedAt(t *testing.T, b []byte, from int, pattern uint32) {
	t.Helper()
	turn(b, from, pattern)
	fails(t, fmt.Sprintf("%d bytes, pattern %X turned from bit %d on", len(b), pattern, from), b, api.ErrSum)
	turn(b, from, pattern)
}

// patterns are some groups of so many bits, the first and the last of which are turned.
func (d *dice) patterns(width int) []uint32 {
	ends := uint32(1)<<(width-1) | 1
	all := uint32(math.MaxUint32) >> (32 - width)
	l := []uint32{ends, all, ends | all&0x55555555, ends | all&0xAAAAAAAA}
	for range 3 {
		l = append(l, ends|all&d.next())
	}
	return l
}

func TestGroupsOfBitsTurned(t *testing.T) {
	d := dice(17)
	for _, n := range []int{1, 2, 3, 4, 5, 9, 40} {
		b := Frame(uint16(d.next()), d.bytes(n))
		for width := 1; width <= min(32, 8*n); width++ {
			for from := range 8*n - width + 1 {
				for _, pattern := range d.patterns(width) {
					turnedAt(t, b, from, pattern)
				}
			}
		}
		opens(t, "turned back", b, binary.LittleEndian.Uint16(b[2:]), b[12:])
	}
}

// The patterns of the polynomial itself, in either order of the bits, are those that a sum of another polynomial may miss.
func TestGroupsLikeThePolynomial(t *testing.T) {
	d := dice(18)
	b := Frame(1, d.bytes(30))
	for from := range 8*30 - 31 {
		for _, pattern := range []uint32{0x1EDC6F41, 0x82F63B78, 0x04C11DB7, 0xEDB88320, 0x8F6E37A0, 0x05EC76F1} {
			turnedAt(t, b, from, pattern)
		}
	}
}

func TestEveryGroupOfTenBits(t *testing.T) {
	d := dice(19)
	for _, n := range []int{2, 6} {
		b := Frame(2, d.bytes(n))
		for from := range 8*n - 9 {
			for pattern := uint32(1); pattern < 1<<10; pattern++ {
				turnedAt(t, b, from, pattern)
			}
		}
	}
}

func TestBitsTurnedInALongFrame(t *testing.T) {
	d := dice(20)
	const n = 65536
	b := Frame(3, d.bytes(n))
	places := []int{0, 1, 31, 8*n/2 - 5, 8*n - 33, 8*n - 32}
	for range 20 {
		places = append(places, int(d.next()%(8*n-32)))
	}
	for _, from := range places {
		for _, pattern := range []uint32{1, 1 << 31, 1<<31 | 1, math.MaxUint32, d.next() | 1} {
			turnedAt(t, b, from, pattern)
		}
	}
	opens(t, "turned back", b, 3, b[12:])
}

// Memory

// spare makes bytes with spare capacity, which is filled, so that writes to it are seen.
func spare(b []byte) (part, whole []byte) {
	whole = join(b, bytes.Repeat([]byte{0xA5}, 64))
	return whole[:len(b)], whole
}

func TestNoArgumentIsChanged(t *testing.T) {
	d := dice(21)
	_, several := items([]byte("one"), nil, []byte("three"))
	for _, b := range [][]byte{nil, {1}, []byte("hello"), everyByte(), d.bytes(65536), frame(7, nil), frame(7, []byte("hello")), several, turned(several, 300), turned(several, 70)} {
		part, whole := spare(b)
		before := slices.Clone(whole)
		Sum(part)
		Go(5, part)
		Frame(6, part)
		Open(part)
		Scan(part)
		if !bytes.Equal(whole, before) {
			t.Errorf("the %d bytes handed in have changed", len(b))
		}
	}
}

// What is behind the bytes handed in, where their memory goes on, belongs to no answer.
func TestSpareCapacityDoesNotCount(t *testing.T) {
	l, b := items([]byte("one"), nil, []byte("three"))
	for n := range len(b) + 1 {
		part, alone := b[:n], slices.Clip(slices.Clone(b[:n]))
		if Sum(part) != Sum(alone) || Go(5, part) != Go(5, alone) || !bytes.Equal(Frame(6, part), frame(6, alone)) {
			t.Errorf("the first %d bytes have other sums or another frame than the same bytes alone", n)
		}
	}
	fails(t, "the end of the frame is in the spare capacity", b[:14], api.ErrForm)
	opens(t, "another frame is in the spare capacity", b[:15], l[0].Kind, l[0].Load)
	scans(t, "two frames are in the spare capacity", b[:15], l[0])
}

func TestFramesAreApart(t *testing.T) {
	d := dice(22)
	for _, n := range []int{0, 1, 5, 300, 65536} {
		load := d.bytes(n)
		want := frame(7, load)
		first, second := Frame(7, load), Frame(7, load)
		clear(first[:cap(first)])
		if !bytes.Equal(second, want) || !bytes.Equal(load, want[12:]) {
			t.Errorf("%d bytes: a frame or what was framed has changed with another frame", n)
		}
		clear(load)
		if !bytes.Equal(second, want) {
			t.Errorf("%d bytes: a frame has changed with what was framed", n)
		}
	}
}

func TestOpenedLoadsAreApart(t *testing.T) {
	d := dice(23)
	for _, n := range []int{0, 1, 5, 300, 65536} {
		want := d.bytes(n)
		b := join(frame(7, want), []byte("behind"))
		before := slices.Clone(b)
		_, first, _, _ := Open(b)
		_, second, _, _ := Open(b)
		clear(first[:cap(first)])
		if !bytes.Equal(second, want) || !bytes.Equal(b, before) {
			t.Errorf("%d bytes: a load or the frame has changed with another load", n)
		}
		clear(b)
		if !bytes.Equal(second, want) {
			t.Errorf("%d bytes: the load has changed with the frame", n)
		}
	}
}

func TestScannedLoadsAreApart(t *testing.T) {
	want, b := items([]byte("one"), nil, []byte("three"), everyByte(), []byte{1})
	before := slices.Clone(b)
	for i := range want {
		first, _ := Scan(b)
		second, _ := Scan(b)
		load := first[i].Load
		clear(load[:cap(load)])
		first[i] = want[i]
		if !slices.EqualFunc(first, want, sameItem) || !slices.EqualFunc(second, want, sameItem) || !bytes.Equal(b, before) {
			t.Errorf("the other items or the frames have changed with the load of item %d", i)
		}
		clear(first[:cap(first)])
		if !slices.EqualFunc(second, want, sameItem) {
			t.Error("the items have changed with other items")
		}
	}
	l, _ := Scan(b)
	clear(b)
	if !slices.EqualFunc(l, want, sameItem) {
		t.Error("the items have changed with the frames")
	}
}

func TestCallsDoNotDependOnThoseBefore(t *testing.T) {
	l, b := items([]byte("one"), nil, []byte("three"))
	for range 3 {
		scans(t, "good", b, l...)
		scans(t, "bad", turned(b, 2))
		opens(t, "good", b, l[0].Kind, l[0].Load)
		fails(t, "bad", turned(b, 8*9), api.ErrSum)
		if Sum([]byte("123456789")) != 0xE3069283 || !bytes.Equal(Frame(l[0].Kind, l[0].Load), b[:15]) {
			t.Error("another answer than before")
		}
	}
}
