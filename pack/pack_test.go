package pack

import (
	"bytes"
	"math"
	"slices"
	"testing"

	"coldframe/api"
)

// P1.1

func TestZeroWriterIsEmpty(t *testing.T) {
	var w Writer
	if b := w.Bytes(); len(b) != 0 {
		t.Errorf("zero writer holds %v", b)
	}
}

func TestWriterReturnsItself(t *testing.T) {
	w := &Writer{}
	got := []*Writer{w.Num(1, 2), w.Num(1, -1), w.Raw([]byte{1}), w.Raw(nil), w.Text([]byte{1}), w.Text(nil), w.Shard(api.Shard{Object: 1})}
	for i, g := range got {
		if g != w {
			t.Errorf("call %d returned another writer", i)
		}
	}
}

func TestWriterNum(t *testing.T) {
	const n = 0x8877665544332211
	all := []byte{0x11, 0x22, 0x33, 0x44, 0x55, 0x66, 0x77, 0x88}
	cases := []struct {
		n    uint64
		size int
		want []byte
	}{
		{258, 2, []byte{2, 1}},
		{258, 1, []byte{2}},
		{258, 4, []byte{2, 1, 0, 0}},
		{0, 3, []byte{0, 0, 0}},
		{math.MaxUint64, 8, bytes.Repeat([]byte{255}, 8)},
		{math.MaxUint64, 0, nil},
		{n, -1, nil},
		{n, math.MinInt, nil},
		{n, 9, all},
		{n, 64, all},
		{n, math.MaxInt, all},
	}
	for size := range 9 {
		cases = append(cases, struct {
			n    uint64
			size int
			want []byte
		}{n, size, all[:size]})
	}
	for _, c := range cases {
		w := (&Writer{}).Raw([]byte{7})
		if got := w.Num(c.n, c.size).Bytes(); !bytes.Equal(got, append([]byte{7}, c.want...)) {
			t.Errorf("Num(%x, %d): %v, want 7 and %v", c.n, c.size, got, c.want)
		}
	}
}

func TestWriterRaw(t *testing.T) {
	w := &Writer{}
	w.Raw([]byte{1, 2}).Raw(nil).Raw([]byte{}).Raw([]byte{0}).Raw([]byte{3})
	if got := w.Bytes(); !bytes.Equal(got, []byte{1, 2, 0, 3}) {
		t.Error(got)
	}
}

func TestWriterText(t *testing.T) {
	w := &Writer{}
	if got := w.Text([]byte("hi")).Text(nil).Text([]byte{9}).Bytes(); !bytes.Equal(got, []byte{2, 0, 'h', 'i', 0, 0, 1, 0, 9}) {
		t.Error(got)
	}
}

func TestWriterTextLengthIsModulo65536(t *testing.T) {
	for _, c := range []struct {
		length int
		head   []byte
	}{
		{255, []byte{255, 0}},
		{256, []byte{0, 1}},
		{65535, []byte{255, 255}},
		{65536, []byte{0, 0}},
		{65537, []byte{1, 0}},
		{2*65536 + 258, []byte{2, 1}},
	} {
		b := pattern(c.length)
		got := (&Writer{}).Text(b).Bytes()
		if !bytes.Equal(got, append(c.head, b...)) {
			t.Errorf("length %d: head %v, %d bytes in all", c.length, got[:2], len(got))
		}
	}
}

func TestWriterShard(t *testing.T) {
	s := api.Shard{Object: 0x04030201, Stripe: 0x0605, Slot: 0x0807, Gen: 0x0c0b0a09}
	if got := (&Writer{}).Shard(s).Bytes(); !bytes.Equal(got, []byte{1, 2, 3, 4, 5, 6, 7, 8, 9, 10, 11, 12}) {
		t.Error(got)
	}
	if got := (&Writer{}).Shard(api.Shard{}).Bytes(); !bytes.Equal(got, make([]byte, 12)) {
		t.Error(got)
	}
}

func TestBytesGoesOn(t *testing.T) {
	w := (&Writer{}).Num(1, 1)
	if a, b := w.Bytes(), w.Bytes(); !bytes.Equal(a, []byte{1}) || !bytes.Equal(b, []byte{1}) {
		t.Error(a, b)
	}
	if got := w.Num(2, 1).Bytes(); !bytes.Equal(got, []byte{1, 2}) {
		t.Error(got)
	}
}

func TestWriterKeepsMemoryApart(t *testing.T) {
	long := []byte{1, 2, 3, 4, 5, 6, 7, 8}
	w := (&Writer{}).Raw(long[:2]).Text(long[2:4])
	w.Num(99, 4)
	if !bytes.Equal(long, []byte{1, 2, 3, 4, 5, 6, 7, 8}) {
		t.Error("argument modified:", long)
	}
	want := []byte{1, 2, 2, 0, 3, 4, 99, 0, 0, 0}
	for i := range long {
		long[i] = 0
	}
	if got := w.Bytes(); !bytes.Equal(got, want) {
		t.Error("argument retained:", got)
	}
	given := w.Bytes()
	_ = append(given, 77)
	given[0] = 88
	if got := w.Num(5, 1).Bytes(); !bytes.Equal(got, append(slices.Clone(want), 5)) {
		t.Error("result shared with the writer:", got)
	}
	if got := given[1:]; !bytes.Equal(got, want[1:]) {
		t.Error("earlier result changed by a later write:", got)
	}
}

func TestNilWriterDoesNotPanic(t *testing.T) {
	var w *Writer
	if w.Num(1, 2).Raw([]byte{1}).Text([]byte{1}).Shard(api.Shard{Gen: 1}) != nil || len(w.Bytes()) != 0 {
		t.Error("nil writer")
	}
}

// P1.2

func checkState(t *testing.T, what string, r *Reader, left int, torn bool) {
	t.Helper()
	if r.Left() != left || r.Torn() != torn || r.Done() != (!torn && left == 0) {
		t.Errorf("%s: left %d, torn %v, done %v; want left %d, torn %v", what, r.Left(), r.Torn(), r.Done(), left, torn)
	}
}

func pattern(n int) []byte {
	b := make([]byte, n)
	for i := range b {
		b[i] = byte(i*7 + i/256 + 1)
	}
	return b
}

func TestReaderOfNothing(t *testing.T) {
	for _, b := range [][]byte{nil, {}} {
		r := Read(b)
		checkState(t, "fresh", r, 0, false)
		if r.Num(0) != 0 || len(r.Raw(0)) != 0 || len(r.Rest()) != 0 {
			t.Error("something came of nothing")
		}
		checkState(t, "after reading nothing", r, 0, false)
		if r.Num(1) != 0 {
			t.Error("a number came of nothing")
		}
		checkState(t, "after a missing byte", r, 0, true)
	}
}

func TestReaderNum(t *testing.T) {
	b := []byte{0x11, 0x22, 0x33, 0x44, 0x55, 0x66, 0x77, 0x88, 0x99}
	want := []uint64{0, 0x11, 0x2211, 0x332211, 0x44332211, 0x5544332211, 0x665544332211, 0x77665544332211, 0x8877665544332211}
	for size, n := range want {
		r := Read(b)
		if got := r.Num(size); got != n {
			t.Errorf("Num(%d): %x, want %x", size, got, n)
		}
		checkState(t, "Num", r, 9-size, false)
	}
	r := Read([]byte{2, 1, 5, 255})
	if r.Num(2) != 258 || r.Num(1) != 5 || r.Num(1) != 255 {
		t.Error("one number after another")
	}
	checkState(t, "all numbers", r, 0, false)
}

func TestReaderNumOfAWrongSize(t *testing.T) {
	for _, size := range []int{-1, -8, math.MinInt, 9, 10, 16, math.MaxInt} {
		r := Read(pattern(20))
		if got := r.Num(size); got != 0 {
			t.Errorf("Num(%d): %d", size, got)
		}
		checkState(t, "Num of a wrong size", r, 0, true)
	}
}

func TestReaderNumWithMissingBytes(t *testing.T) {
	for size := 1; size <= 8; size++ {
		for have := range size {
			r := Read(pattern(have))
			if got := r.Num(size); got != 0 {
				t.Errorf("Num(%d) of %d bytes: %d", size, have, got)
			}
			checkState(t, "Num with missing bytes", r, 0, true)
		}
	}
}

func TestReaderRaw(t *testing.T) {
	r := Read([]byte{1, 2, 3, 4, 5})
	if got := r.Raw(2); !bytes.Equal(got, []byte{1, 2}) {
		t.Error(got)
	}
	if got := r.Raw(0); len(got) != 0 {
		t.Error(got)
	}
	checkState(t, "Raw(0)", r, 3, false)
	if got := r.Raw(3); !bytes.Equal(got, []byte{3, 4, 5}) {
		t.Error(got)
	}
	checkState(t, "all", r, 0, false)
}

func TestReaderRawOfAWrongLength(t *testing.T) {
	for _, n := range []int{-1, math.MinInt, 6, math.MaxInt} {
		r := Read([]byte{1, 2, 3, 4, 5})
		if got := r.Raw(n); len(got) != 0 {
			t.Errorf("Raw(%d): %v", n, got)
		}
		checkState(t, "Raw of a wrong length", r, 0, true)
	}
}

func TestReaderText(t *testing.T) {
	r := Read([]byte{2, 0, 'h', 'i', 0, 0, 1, 0, 9, 3})
	if a, b, c := r.Text(), r.Text(), r.Text(); string(a) != "hi" || len(b) != 0 || !bytes.Equal(c, []byte{9}) {
		t.Error(a, b, c)
	}
	checkState(t, "texts", r, 1, false)
	long := pattern(258)
	if got := Read(append([]byte{2, 1}, long...)).Text(); !bytes.Equal(got, long) {
		t.Error("a text of 258 bytes")
	}
}

func TestReaderTextWithMissingBytes(t *testing.T) {
	for _, b := range [][]byte{nil, {1}, {1, 0}, {3, 0, 1, 2}, {0, 1, 5}, {255, 255, 1, 2, 3}} {
		r := Read(b)
		if got := r.Text(); len(got) != 0 {
			t.Errorf("Text of %v: %v", b, got)
		}
		checkState(t, "Text with missing bytes", r, 0, true)
	}
}

func TestReaderShard(t *testing.T) {
	r := Read([]byte{1, 2, 3, 4, 5, 6, 7, 8, 9, 10, 11, 12, 13})
	if got, want := r.Shard(), (api.Shard{Object: 0x04030201, Stripe: 0x0605, Slot: 0x0807, Gen: 0x0c0b0a09}); got != want {
		t.Error(got)
	}
	checkState(t, "Shard", r, 1, false)
}

func TestReaderShardWithMissingBytes(t *testing.T) {
	for have := range 12 {
		var want api.Shard
		if have >= 4 {
			want.Object = 0x04030201
		}
		if have >= 6 {
			want.Stripe = 0x0605
		}
		if have >= 8 {
			want.Slot = 0x0807
		}
		r := Read([]byte{1, 2, 3, 4, 5, 6, 7, 8, 9, 10, 11, 12}[:have])
		if got := r.Shard(); got != want {
			t.Errorf("Shard of %d bytes: %v, want %v", have, got, want)
		}
		checkState(t, "Shard with missing bytes", r, 0, true)
	}
}

func TestReaderRest(t *testing.T) {
	r := Read([]byte{1, 2, 3, 4})
	r.Num(1)
	if got := r.Rest(); !bytes.Equal(got, []byte{2, 3, 4}) {
		t.Error(got)
	}
	checkState(t, "Rest", r, 0, false)
	if got := r.Rest(); len(got) != 0 {
		t.Error(got)
	}
	checkState(t, "Rest again", r, 0, false)
	whole := Read([]byte{1, 2})
	if got := whole.Rest(); !bytes.Equal(got, []byte{1, 2}) || !whole.Done() {
		t.Error(got)
	}
}

func TestTornReaderStaysTorn(t *testing.T) {
	r := Read([]byte{1, 2, 3, 4})
	r.Raw(5)
	if r.Num(1) != 0 || r.Num(0) != 0 || len(r.Raw(1)) != 0 || len(r.Raw(0)) != 0 || len(r.Text()) != 0 || r.Shard() != (api.Shard{}) || len(r.Rest()) != 0 {
		t.Error("a torn reader still reads")
	}
	checkState(t, "torn", r, 0, true)
	early := Read([]byte{1, 2})
	early.Raw(-1)
	early.Num(0)
	early.Raw(0)
	early.Rest()
	checkState(t, "torn, then calls that miss nothing", early, 0, true)
}

func TestNilReader(t *testing.T) {
	var r *Reader
	if !r.Torn() || r.Done() || r.Left() != 0 {
		t.Error("a nil reader is torn and has no bytes")
	}
	if r.Num(4) != 0 || r.Num(0) != 0 || r.Num(-1) != 0 || r.Num(9) != 0 {
		t.Error("numbers of a nil reader")
	}
	if len(r.Raw(1)) != 0 || len(r.Raw(0)) != 0 || len(r.Raw(-1)) != 0 || len(r.Text()) != 0 || len(r.Rest()) != 0 {
		t.Error("bytes of a nil reader")
	}
	if r.Shard() != (api.Shard{}) {
		t.Error("shard of a nil reader")
	}
	checkState(t, "nil", r, 0, true)
}

func TestReaderKeepsMemoryApart(t *testing.T) {
	b := []byte{1, 2, 3, 0, 4, 5, 6, 7, 8}
	r := Read(b[:8])
	first := r.Raw(2)
	first[0] = 99
	_ = append(first, 77, 77)
	text := r.Text()
	_ = append(text, 77, 77)
	if !bytes.Equal(b, []byte{1, 2, 3, 0, 4, 5, 6, 7, 8}) {
		t.Error("argument modified:", b)
	}
	for i := range b {
		b[i] = 0
	}
	if !bytes.Equal(text, []byte{4, 5, 6}) {
		t.Error(text)
	}
	if got := r.Rest(); !bytes.Equal(got, []byte{7}) {
		t.Error("argument retained, or a result shared:", got)
	}
	if !bytes.Equal(first, []byte{99, 2}) {
		t.Error(first)
	}
}

// P1.3

func TestWhatWasWrittenIsRead(t *testing.T) {
	shards := []api.Shard{
		{},
		{Object: 1, Stripe: 2, Slot: 3, Gen: 4},
		{Object: math.MaxUint32, Stripe: math.MaxUint16, Slot: math.MaxUint16, Gen: math.MaxUint32},
		{Object: 1 << 31, Stripe: 1 << 15, Slot: 256, Gen: 1 << 24},
	}
	numbers := []uint64{0, 1, 255, 256, 65535, 65536, 1 << 31, 1 << 32, 0x0102030405060708, 1 << 63, math.MaxUint64}
	lengths := []int{0, 1, 2, 255, 256, 257, 65534, 65535}
	w := &Writer{}
	for i, s := range shards {
		w.Shard(s)
		for _, n := range numbers {
			for size := range 9 {
				w.Num(n, size)
			}
		}
		for _, l := range lengths {
			w.Text(pattern(l)).Raw(pattern(i))
		}
	}
	tail := pattern(70000)
	r := Read(w.Raw(tail).Bytes())
	for i, s := range shards {
		if got := r.Shard(); got != s {
			t.Fatalf("shard %v read as %v", s, got)
		}
		for _, n := range numbers {
			for size := range 9 {
				want := n
				if size < 8 {
					want = n % (1 << (8 * size))
				}
				if got := r.Num(size); got != want {
					t.Fatalf("%x in %d bytes read as %x", n, size, got)
				}
			}
		}
		for _, l := range lengths {
			if !bytes.Equal(r.Text(), pattern(l)) || !bytes.Equal(r.Raw(i), pattern(i)) {
				t.Fatalf("text of %d bytes read otherwise", l)
			}
		}
	}
	if r.Done() || r.Left() != len(tail) {
		t.Errorf("%d bytes left, want %d", r.Left(), len(tail))
	}
	if !bytes.Equal(r.Rest(), tail) || !r.Done() {
		t.Error("the rest")
	}
}

func TestReadersOfOneTextAreApart(t *testing.T) {
	b := (&Writer{}).Num(5, 1).Num(6, 1).Bytes()
	r, s := Read(b), Read(b)
	if r.Num(1) != 5 || s.Num(1) != 5 || r.Num(1) != 6 || s.Left() != 1 {
		t.Error("one reader moved another")
	}
}
