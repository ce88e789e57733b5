package diary

import (
	"bytes"
	"encoding/binary"
	"fmt"
	"hash/crc32"
	"math"
	"slices"
	"strings"
	"testing"

	"coldframe/api"
	"coldframe/seal"
	"coldframe/tape"
)

// dice makes numbers that look as if they were random; the seed tells which.
type dice uint64

// below returns a number from 0 to n - 1.
func (d *dice) below(n int) int {
	*d = *d*6364136223846793005 + 1442695040888963407
	return int(*d>>33) % n
}

// text makes n bytes.
func (d *dice) text(n int) string {
	b := make([]byte, n)
	for i := range b {
		b[i] = byte(d.below(256))
	}
	return string(b)
}

// extra is how many bytes the frame of a record has more than the record.
const extra = 12 + 8

// frame makes a frame by hand.
func frame(kind int, load string) string {
	b := []byte{0x1D, 0xCF}
	b = binary.LittleEndian.AppendUint16(b, uint16(kind))
	b = binary.LittleEndian.AppendUint32(b, uint32(len(load)))
	sum := crc32.Checksum([]byte(string(b)+load), crc32.MakeTable(crc32.Castagnoli))
	return string(binary.LittleEndian.AppendUint32(b, sum)) + load
}

// digits makes the 8 bytes of a number by hand.
func digits(num uint64) string {
	return string(binary.LittleEndian.AppendUint64(nil, num))
}

// record makes a record on a tape by hand.
func record(num uint64, text string) string {
	return frame(2, digits(num)+text)
}

// records makes records on a tape by hand, numbered from 1 on.
func records(texts ...string) string {
	var s strings.Builder
	for i, text := range texts {
		s.WriteString(record(uint64(i)+1, text))
	}
	return s.String()
}

// long makes a text of n bytes.
func long(n int) string {
	return strings.Repeat("0123456789", n/10+1)[:n]
}

// list makes a list of texts.
func list(texts ...string) []string {
	return texts
}

// on makes a tape for most bytes that has these, the first ones safe, the others loose.
func on(t *testing.T, most int, safe, loose string) *tape.Tape {
	t.Helper()
	x := tape.New(most)
	answers(t, "Append", x.Append([]byte(safe)), api.OK)
	answers(t, "Sync", x.Sync(), api.OK)
	answers(t, "Append", x.Append([]byte(loose)), api.OK)
	return x
}

// opened opens a tape.
func opened(t *testing.T, x *tape.Tape) *Diary {
	t.Helper()
	d, e := Open(x)
	if e != api.OK || d == nil {
		t.Fatalf("Open: %v, error %d", d, e)
	}
	return d
}

// fresh makes a tape for most bytes, and opens it.
func fresh(t *testing.T, most int) (*tape.Tape, *Diary) {
	t.Helper()
	x := tape.New(most)
	return x, opened(t, x)
}

// writes writes records, and wants no error.
func writes(t *testing.T, d *Diary, texts ...string) {
	t.Helper()
	for _, text := range texts {
		answers(t, fmt.Sprintf("Write of %.40q", text), d.Write([]byte(text)), api.OK)
	}
}

// syncs syncs, and wants no error.
func syncs(t *testing.T, d *Diary) {
	t.Helper()
	answers(t, "Sync", d.Sync(), api.OK)
}

// answers checks an error.
func answers(t *testing.T, what string, e, want api.Errno) {
	t.Helper()
	if e != want {
		t.Errorf("%s: error %d, want %d", what, e, want)
	}
}

// gone checks how many records a call removed.
func gone(t *testing.T, what string, got, want int) {
	t.Helper()
	if got != want {
		t.Errorf("%s: %d records are gone, want %d", what, got, want)
	}
}

// stands checks which bytes of a tape are safe, and which loose.
func stands(t *testing.T, what string, x *tape.Tape, safe, loose string) {
	t.Helper()
	if a, s := x.Len(); a != len(safe)+len(loose) || s != len(safe) {
		t.Errorf("%s: the tape has %d bytes, %d of them safe; want %d, %d", what, a, s, len(safe)+len(loose), len(safe))
	}
	if b := x.Read(); string(b) != safe+loose {
		t.Errorf("%s: on the tape stands %.120q, want %.120q", what, b, safe+loose)
	}
}

// has checks which records a diary has, and how many of them are safe.
func has(t *testing.T, what string, d *Diary, want []string, wantSafe int) {
	t.Helper()
	if all, safe := d.Len(); all != len(want) || safe != wantSafe {
		t.Errorf("%s: Len is %d, %d; want %d, %d", what, all, safe, len(want), wantSafe)
	}
	for i, text := range want {
		if b, ok := d.Get(i + 1); !ok || string(b) != text {
			t.Errorf("%s: Get(%d) is %.40q, %v; want %.40q", what, i+1, b, ok, text)
		}
	}
	for _, n := range []int{math.MinInt, -1 << 32, 1 - 1<<32, -2, -1, 0, len(want) + 1, len(want) + 2, 1 << 31, 1 << 32, 1<<32 + 1, math.MaxInt} {
		if b, ok := d.Get(n); ok || len(b) > 0 {
			t.Errorf("%s: Get(%d) is %.40q, %v; want none", what, n, b, ok)
		}
	}
}

// both checks a diary all of whose records it has written or found on its tape, and the tape.
func both(t *testing.T, what string, d *Diary, x *tape.Tape, want []string, wantSafe int) {
	t.Helper()
	has(t, what, d, want, wantSafe)
	safe := len(records(want[:wantSafe]...))
	s := records(want...)
	stands(t, what, x, s[:safe], s[safe:])
}

// takes checks that the next record's frame may have just n more bytes, n of at least extra; it is written then.
func takes(t *testing.T, what string, d *Diary, x *tape.Tape, had []string, safe, n int) []string {
	t.Helper()
	text := long(n - extra)
	answers(t, what+", one too many", d.Write([]byte(text+"x")), api.ErrFull)
	both(t, what+", one too many", d, x, had, safe)
	answers(t, what+", the rest", d.Write([]byte(text)), api.OK)
	had = append(slices.Clip(had), text)
	both(t, what+", the rest", d, x, had, safe)
	answers(t, what+", full", d.Write(nil), api.ErrFull)
	both(t, what+", full", d, x, had, safe)
	return had
}

// tells checks what Records returns.
func tells(t *testing.T, what, b string, want []string, wantSize int) {
	t.Helper()
	l, size := Records([]byte(b))
	same(t, what, l, want)
	if size != wantSize {
		t.Errorf("%s: Records tells %d bytes, want %d", what, size, wantSize)
	}
}

// same checks a list of records.
func same(t *testing.T, what string, l [][]byte, want []string) {
	t.Helper()
	if len(l) != len(want) {
		t.Errorf("%s: %d records, want %d", what, len(l), len(want))
		return
	}
	for i, b := range l {
		if string(b) != want[i] {
			t.Errorf("%s: record %d is %.40q, want %.40q", what, i+1, b, want[i])
		}
	}
}

// nums are numbers of records, among them those that differ from 1 in one byte alone.
var nums = []uint64{0, 1, 2, 3, 255, 256, 257, 1<<16 + 1, 1<<24 + 1, 1<<32 - 1, 1 << 32, 1<<32 + 1, 1<<40 + 1, 1<<48 + 1, 1<<56 + 1, 1 << 63, 1<<63 + 1, math.MaxUint64 - 1, math.MaxUint64}

// texts are records of several lengths.
var texts = []string{"", "a", "\x00", "\xff", "hello", "\x1d\xcf\x02\x00", strings.Repeat("\x00", 8), digits(1), long(100), long(255), long(256), long(65536 / 2)}

// P14.1

func TestMostRecord(t *testing.T) {
	if MostRecord != 60000 {
		t.Error(MostRecord)
	}
}

func TestFrame(t *testing.T) {
	for _, num := range nums {
		for _, text := range texts {
			if b := Frame(num, []byte(text)); string(b) != record(num, text) {
				t.Errorf("Frame(%d, %.40q) is %.120q, want %.120q", num, text, b, record(num, text))
			}
		}
		if b := Frame(num, nil); string(b) != record(num, "") {
			t.Errorf("Frame(%d, nil) is %q, want %q", num, b, record(num, ""))
		}
	}
}

func TestFrameByteByByte(t *testing.T) {
	b := Frame(0x8877665544332211, []byte("xy"))
	want := "\x1d\xcf" + "\x02\x00" + "\x0a\x00\x00\x00"
	if len(b) != 22 || string(b[:8]) != want || string(b[12:]) != "\x11\x22\x33\x44\x55\x66\x77\x88xy" {
		t.Fatalf("%q", b)
	}
	sum := binary.LittleEndian.Uint32(b[8:12])
	if want := seal.Sum(append(slices.Clone(b[:8]), b[12:]...)); sum != want {
		t.Errorf("the sum is %x, want %x", sum, want)
	}
}

func TestFrameOfMostBytes(t *testing.T) {
	for _, num := range []uint64{0, 1, 1 << 40, math.MaxUint64} {
		for _, n := range []int{59991, 59992, 59993, 59999, 60000} {
			if b := Frame(num, []byte(long(n))); string(b) != record(num, long(n)) {
				t.Errorf("Frame(%d) of %d bytes is not the record", num, n)
			}
		}
		for _, n := range []int{60001, 60002, 60008, 65527, 65528, 65529, 65535, 65536, 65537, 1 << 17, 1<<17 + 1} {
			if b := Frame(num, make([]byte, n)); len(b) > 0 {
				t.Errorf("Frame(%d) of %d bytes has %d bytes, want none", num, n, len(b))
			}
		}
	}
}

func TestFrameIsOpenedBySeal(t *testing.T) {
	for _, text := range texts {
		kind, load, size, e := seal.Open(Frame(258, []byte(text)))
		if kind != 2 || string(load) != digits(258)+text || size != extra+len(text) || e != api.OK {
			t.Errorf("%.40q: kind %d, load %.40q, size %d, error %d", text, kind, load, size, e)
		}
	}
}

func TestRecordsOfNoRecords(t *testing.T) {
	l, size := Records(nil)
	same(t, "nil", l, nil)
	if size != 0 {
		t.Errorf("nil: %d bytes", size)
	}
	for _, b := range []string{"", "x", "\x1d", "\x1d\xcf", "\x1d\xcf\x02\x00\x08\x00\x00\x00", "\xcf\x1d" + long(40), long(12), long(100), strings.Repeat("\x00", 50), "x" + records("one", "two"), digits(1) + "one"} {
		tells(t, fmt.Sprintf("%.40q", b), b, nil, 0)
	}
}

func TestRecordsOfOne(t *testing.T) {
	for _, text := range append(texts, long(59999), long(60000)) {
		b := record(1, text)
		tells(t, fmt.Sprintf("one of %d bytes", len(text)), b, list(text), len(text)+20)
		for _, more := range []string{"x", "\x1d\xcf", digits(2), "x" + record(2, "next"), b[1:]} {
			tells(t, fmt.Sprintf("one of %d bytes and %.20q", len(text), more), b+more, list(text), len(text)+20)
		}
	}
}

func TestRecordsOfMany(t *testing.T) {
	var want []string
	for i := range 700 {
		want = append(want, long(i%41))
	}
	all := records(want...)
	tells(t, "many", all, want, len(all))
	tells(t, "many and others", all+"\x1d\xcf\x02", want, len(all))
	size := 0
	for n := range 30 {
		tells(t, fmt.Sprint(n, " records"), records(want[:n]...), want[:n], size)
		tells(t, fmt.Sprint(n, " records and others"), records(want[:n]...)+"others", want[:n], size)
		size += extra + len(want[n])
	}
}

// Where the number takes more than two bytes, the records still go on.
func TestRecordsOfVeryMany(t *testing.T) {
	want := make([]string, 66000)
	all := records(want...)
	tells(t, "very many", all, want, 66000*extra)
	tells(t, "very many and one of another number", all+record(66000, ""), want, 66000*extra)
	tells(t, "very many and one whose high bytes are lost", records(want[:65536]...)+record(1, ""), want[:65536], 65536*extra)
}

func TestRecordsGiveWhatFrameWasGiven(t *testing.T) {
	dice := dice(14)
	for range 300 {
		var want []string
		var b []byte
		for i := range dice.below(12) {
			want = append(want, dice.text(dice.below(50)))
			b = append(b, Frame(uint64(i)+1, []byte(want[i]))...)
		}
		size := len(b)
		l, n := Records(append(b, dice.text(dice.below(19))...))
		same(t, "framed", l, want)
		if n != size {
			t.Errorf("%d bytes, want %d", n, size)
		}
	}
}

// others makes frames that do not go on with records of which n are there.
func others(n uint64) map[string]string {
	m := map[string]string{
		"no load":               frame(2, ""),
		"another kind, no load": frame(1, ""),
		"a record of 60001":     record(n+1, long(60001)),
		"a record of 60002":     record(n+1, long(60002)),
		"a record of 65528":     record(n+1, long(65528)),
		"its number twice":      record(n, "twice"),
		"one left out":          record(n+2, "left out"),
		"one left out, empty":   record(n+2, ""),
		"a higher byte":         record(n+1+1<<56, "x"),
		"high end first":        frame(2, string(binary.BigEndian.AppendUint64(nil, n+1))+"x"),
		"the greatest":          record(math.MaxUint64, "x"),
		"0":                     record(0, "x"),
		"0, of 60001":           record(0, long(60001)),
	}
	for i := range 8 {
		m[fmt.Sprintf("a number of %d bytes", i)] = frame(2, digits(n + 1)[:i])
		m[fmt.Sprintf("%d bytes that are zero", i)] = frame(2, digits(0)[:i])
		if i > 0 {
			m[fmt.Sprintf("byte %d of the number is another one", i)] = record(n+1+1<<(8*i), "x")
		}
	}
	for _, kind := range []int{0, 1, 3, 4, 130, 258, 512, 514, 32770, 65533, 65535} {
		m[fmt.Sprintf("kind %d", kind)] = frame(kind, digits(n+1)+"text")
		m[fmt.Sprintf("kind %d, no text", kind)] = frame(kind, digits(n+1))
	}
	for _, num := range nums {
		if num != n+1 {
			m[fmt.Sprintf("number %d", num)] = record(num, "text")
		}
	}
	return m
}

// The first frame that goes not on ends the records, at the place where it begins, whatever stands behind it.
func TestRecordsUpToAFrameThatIsNone(t *testing.T) {
	want := list("one", "", "three", long(100))
	for n := range len(want) + 1 {
		ahead := records(want[:n]...)
		next := uint64(n) + 1
		for what, other := range others(uint64(n)) {
			what = fmt.Sprintf("%s behind %d records", what, n)
			tells(t, what, ahead+other, want[:n], len(ahead))
			tells(t, what+", and the record", ahead+other+record(next, "x"), want[:n], len(ahead))
			tells(t, what+", and the one after it", ahead+other+record(next+1, "x"), want[:n], len(ahead))
			tells(t, what+", and other bytes", ahead+other+"\x1d\xcfxyz", want[:n], len(ahead))
			tells(t, what+", twice", ahead+other+other, want[:n], len(ahead))
			tells(t, what+", and all again", ahead+other+records(want...), want[:n], len(ahead))
		}
	}
}

func TestRecordsInAnotherOrder(t *testing.T) {
	one, two, three := record(1, "one"), record(2, "two"), record(3, "three")
	for _, c := range []struct {
		b    string
		want []string
	}{
		{one + two + three, list("one", "two", "three")},
		{one + three + two, list("one")},
		{two + one + three, nil},
		{two + three + one, nil},
		{three + two + one, nil},
		{three + one + two, nil},
		{one + one + two, list("one")},
		{one + two + two + three, list("one", "two")},
		{one + two + one + two + three, list("one", "two")},
		{record(0, "nil") + one + two, nil},
	} {
		tells(t, fmt.Sprintf("%.90q", c.b), c.b, c.want, len(records(c.want...)))
	}
}

func TestRecordsOfTornFrames(t *testing.T) {
	want := list("one", "", "three")
	b := records(want...)
	for size := range len(b) + 1 {
		n, end := 0, 0
		for n < len(want) && end+extra+len(want[n]) <= size {
			end += extra + len(want[n])
			n++
		}
		tells(t, fmt.Sprintf("the first %d bytes", size), b[:size], want[:n], end)
	}
}

// Whatever bit of whatever frame is turned, the records end ahead of it.
func TestRecordsOfWrongSums(t *testing.T) {
	want := list("one", "", "three")
	ends := []int{0, 23, 43, 68}
	for at := range 68 {
		n := 0
		for ends[n+1] <= at {
			n++
		}
		for bit := range 8 {
			b := []byte(records(want...))
			b[at] ^= 1 << bit
			tells(t, fmt.Sprintf("byte %d, bit %d", at, bit), string(b), want[:n], ends[n])
		}
	}
}

func TestRecordsOfAFrameLongerThanAFrameMayBe(t *testing.T) {
	b := []byte(record(1, "one"))
	b = append(b, 0x1D, 0xCF, 2, 0)
	b = binary.LittleEndian.AppendUint32(b, 65537)
	load := digits(2) + long(65529)
	b = binary.LittleEndian.AppendUint32(b, seal.Sum(append(slices.Clone(b[23:]), load...)))
	tells(t, "65537 bytes", string(b)+load, list("one"), 23)
}

// P14.2

func TestOpenOfNil(t *testing.T) {
	for range 2 {
		d, e := Open(nil)
		answers(t, "Open", e, api.ErrNil)
		if d != nil {
			t.Error("there is a diary")
		}
	}
}

func TestOpenOfNoBytes(t *testing.T) {
	for _, most := range []int{-1, 0, 1, 19, 20, 100} {
		x, d := fresh(t, most)
		both(t, "no bytes", d, x, nil, 0)
	}
}

// Wherever the safe bytes end, the records are safe once they are found, and what stands behind them is cut off.
func TestOpen(t *testing.T) {
	junk := list("", "x", "\x1d\xcf", record(9, "nine"), "x"+record(4, "four"), record(4, "four")[:23], frame(1, digits(4)), frame(2, ""), long(100))
	for n := range 4 {
		want := list("one", "", "three")[:n]
		for _, more := range junk {
			s := records(want...) + more
			for safe := range len(s) + 1 {
				what := fmt.Sprintf("%d records and %.20q, %d bytes safe", n, more, safe)
				x := on(t, 200, s[:safe], s[safe:])
				d := opened(t, x)
				both(t, what, d, x, want, n)
				gone(t, what+", Back", d.Back(), 0)
				both(t, what+", Back", d, x, want, n)
				if t.Failed() {
					t.FailNow()
				}
			}
		}
	}
}

// What is cut off makes room.
func TestOpenMakesRoom(t *testing.T) {
	for _, more := range list("", "x", record(2, "two"), record(3, "three")) {
		for safe := range len(more) + 1 {
			one := records("one")
			x := on(t, 100, one+more[:safe], more[safe:])
			d := opened(t, x)
			want, size := list("one"), len(one)
			if more == record(2, "two") {
				want, size = list("one", "two"), len(one)+len(more)
			}
			both(t, "opened", d, x, want, len(want))
			takes(t, "opened", d, x, want, len(want), 100-size)
		}
	}
}

func TestOpenOfAFullTape(t *testing.T) {
	want := list("one", "two", "three")
	s := records(want...)
	x := on(t, len(s), s[:30], s[30:])
	d := opened(t, x)
	both(t, "full", d, x, want, 3)
	answers(t, "Write", d.Write(nil), api.ErrFull)
	both(t, "full", d, x, want, 3)
}

func TestOpenOfLongRecords(t *testing.T) {
	want := list(long(60000), "", long(60000))
	s := records(want...)
	for _, safe := range []int{0, 60020, 60021, 60040, len(s)} {
		x := on(t, 200000, s[:safe], s[safe:])
		both(t, "long", opened(t, x), x, want, 3)
	}
	s = records(want[:2]...) + record(3, long(60001)) + record(4, "four")
	x := on(t, 200000, s[:60000], s[60000:])
	both(t, "one too long", opened(t, x), x, want[:2], 2)
}

func TestOpenAgain(t *testing.T) {
	want := list("one", "", "three")
	x := on(t, 200, records(want...), "more")
	one := opened(t, x)
	both(t, "opened", one, x, want, 3)
	two := opened(t, x)
	both(t, "opened twice, the one", one, x, want, 3)
	both(t, "opened twice, the other one", two, x, want, 3)
	writes(t, two, "four")
	has(t, "the one", one, want, 3)
	both(t, "the other one", two, x, append(want, "four"), 3)
	three := opened(t, x)
	has(t, "the one", one, want, 3)
	has(t, "the second", two, append(want, "four"), 3)
	both(t, "the third", three, x, append(want, "four"), 4)
}

// A record that was not safe when its tape is opened is safe then.
func TestOpenBehindWrites(t *testing.T) {
	x, d := fresh(t, 200)
	writes(t, d, "one", "two")
	both(t, "written", d, x, list("one", "two"), 0)
	again := opened(t, x)
	both(t, "opened", again, x, list("one", "two"), 2)
	x.Crash(0, 255)
	both(t, "behind a crash", opened(t, x), x, list("one", "two"), 2)
}

func TestLenAndGet(t *testing.T) {
	all := list("one", "", "three", "four", "")
	for n := range len(all) + 1 {
		for safe := range n + 1 {
			x, d := fresh(t, 500)
			writes(t, d, all[:safe]...)
			syncs(t, d)
			writes(t, d, all[safe:n]...)
			both(t, fmt.Sprintf("%d records, %d safe", n, safe), d, x, all[:n], safe)
		}
	}
}

// P14.3

func TestWrite(t *testing.T) {
	x, d := fresh(t, 1<<17)
	var want []string
	for i, text := range texts {
		answers(t, fmt.Sprintf("Write of %.40q", text), d.Write([]byte(text)), api.OK)
		want = append(want, text)
		both(t, fmt.Sprintf("%d written", i+1), d, x, want, 0)
	}
	answers(t, "Write of nil", d.Write(nil), api.OK)
	both(t, "nil written", d, x, append(want, ""), 0)
}

func TestWriteOfMany(t *testing.T) {
	x, d := fresh(t, 1<<20)
	var want []string
	for i := range 700 {
		want = append(want, fmt.Sprint(i))
		writes(t, d, want[i])
	}
	both(t, "many", d, x, want, 0)
	both(t, "many, opened", opened(t, x), x, want, 700)
}

func TestWriteOfMostBytes(t *testing.T) {
	x, d := fresh(t, 200000)
	writes(t, d, "one", long(60000), long(59999))
	want := list("one", long(60000), long(59999))
	both(t, "long", d, x, want, 0)
	for _, n := range []int{60001, 60002, 65528, 65529, 65536, 65537, 150000} {
		what := fmt.Sprintf("Write of %d bytes", n)
		answers(t, what, d.Write(make([]byte, n)), api.ErrLong)
		both(t, what, d, x, want, 0)
	}
	writes(t, d, "four")
	want = append(want, "four")
	both(t, "next", d, x, want, 0)
	syncs(t, d)
	answers(t, "Write of one too many", d.Write(make([]byte, 60001)), api.ErrLong)
	both(t, "synced", d, x, want, 4)
}

// Whether the tape has room for it or not, a record that is too long is just that.
func TestWriteOfTooManyBytesOnAFullTape(t *testing.T) {
	for _, most := range []int{-1, 0, 19, 20, 23, 100, 60019, 60020, 60021, 80000, 1 << 20} {
		x, d := fresh(t, most)
		for _, n := range []int{60001, 65536, 70000} {
			what := fmt.Sprintf("Write of %d bytes for %d", n, most)
			answers(t, what, d.Write(make([]byte, n)), api.ErrLong)
			both(t, what, d, x, nil, 0)
		}
		want := api.ErrFull
		if most >= 60020 {
			want = api.OK
		}
		answers(t, fmt.Sprintf("Write of 60000 bytes for %d", most), d.Write(make([]byte, 60000)), want)
	}
}

func TestWriteOnAFullTape(t *testing.T) {
	for most := -2; most < 70; most++ {
		for n := range 60 {
			what := fmt.Sprintf("Write of %d bytes for %d", n, most)
			x, d := fresh(t, most)
			if extra+n > most {
				answers(t, what, d.Write([]byte(long(n))), api.ErrFull)
				both(t, what, d, x, nil, 0)
				continue
			}
			answers(t, what, d.Write([]byte(long(n))), api.OK)
			both(t, what, d, x, list(long(n)), 0)
			if left := most - n - extra; left >= extra {
				takes(t, what, d, x, list(long(n)), 0, left)
				continue
			}
			answers(t, what+", once more", d.Write(nil), api.ErrFull)
			both(t, what+", once more", d, x, list(long(n)), 0)
		}
	}
}

// Behind an error, the next record has the number that the one before would have had.
func TestWriteBehindErrors(t *testing.T) {
	x, d := fresh(t, 100)
	var want []string
	for i, text := range list("one", "", "three") {
		for range 3 {
			answers(t, "Write of too many", d.Write(make([]byte, 100)), api.ErrFull)
			answers(t, "Write of far too many", d.Write(make([]byte, 60001)), api.ErrLong)
			both(t, "behind errors", d, x, want, i)
		}
		writes(t, d, text)
		want = append(want, text)
		both(t, "written", d, x, want, i)
		answers(t, "Write of too many", d.Write(make([]byte, 100)), api.ErrFull)
		answers(t, "Write of far too many", d.Write(make([]byte, 60001)), api.ErrLong)
		both(t, "errors behind it", d, x, want, i)
		syncs(t, d)
		both(t, "synced", d, x, want, i+1)
	}
	both(t, "opened", opened(t, x), x, want, 3)
}

func TestWriteBehindOpen(t *testing.T) {
	for n := range 5 {
		want := list("one", "", "three", "four")[:n]
		s := records(want...)
		for _, more := range list("", "x", record(9, "nine")) {
			x := on(t, 300, s, more)
			d := opened(t, x)
			writes(t, d, "next", "")
			both(t, "written", d, x, append(slices.Clip(want), "next", ""), n)
			gone(t, "Back", d.Back(), 2)
			both(t, "gone Back", d, x, want, n)
		}
	}
}

// A record that is a record on a tape, or several, is still one.
func TestWriteOfWhatLooksLikeRecords(t *testing.T) {
	x, d := fresh(t, 1000)
	want := list(record(1, "one"), records("one", "two"), record(4, "four"), frame(7, "x"), "\x1d\xcf\x02\x00")
	writes(t, d, want...)
	both(t, "written", d, x, want, 0)
	syncs(t, d)
	both(t, "opened", opened(t, x), x, want, 5)
}

func TestWriteBehindBack(t *testing.T) {
	x, d := fresh(t, 100)
	writes(t, d, "one", "two")
	syncs(t, d)
	writes(t, d, long(14), "")
	both(t, "full", d, x, list("one", "two", long(14), ""), 2)
	answers(t, "Write", d.Write(nil), api.ErrFull)
	gone(t, "Back", d.Back(), 2)
	both(t, "gone Back", d, x, list("one", "two"), 2)
	want := takes(t, "the room of both", d, x, list("one", "two"), 2, 54)
	both(t, "written", d, x, want, 2)
	gone(t, "Back", d.Back(), 1)
	writes(t, d, "3", "4")
	both(t, "written", d, x, list("one", "two", "3", "4"), 2)
	syncs(t, d)
	both(t, "opened", opened(t, x), x, list("one", "two", "3", "4"), 4)
}

func TestSync(t *testing.T) {
	x, d := fresh(t, 200)
	for range 2 {
		syncs(t, d)
		both(t, "none", d, x, nil, 0)
	}
	writes(t, d, "one", "", "three")
	both(t, "written", d, x, list("one", "", "three"), 0)
	for range 2 {
		syncs(t, d)
		both(t, "synced", d, x, list("one", "", "three"), 3)
	}
	gone(t, "Back", d.Back(), 0)
	both(t, "Back behind it", d, x, list("one", "", "three"), 3)
	writes(t, d, "four")
	both(t, "one more", d, x, list("one", "", "three", "four"), 3)
	for range 2 {
		syncs(t, d)
		both(t, "synced", d, x, list("one", "", "three", "four"), 4)
	}
}

func TestSyncOfALongRecord(t *testing.T) {
	x, d := fresh(t, 60020)
	writes(t, d, long(60000))
	both(t, "written", d, x, list(long(60000)), 0)
	syncs(t, d)
	both(t, "synced", d, x, list(long(60000)), 1)
	gone(t, "Crash", x.Crash(0, 255), 0)
	both(t, "opened", opened(t, x), x, list(long(60000)), 1)
}

func TestBack(t *testing.T) {
	all := list("one", "", "three", "four", "")
	for n := range len(all) + 1 {
		for safe := range n + 1 {
			what := fmt.Sprintf("%d records, %d safe", n, safe)
			x, d := fresh(t, 500)
			writes(t, d, all[:safe]...)
			syncs(t, d)
			writes(t, d, all[safe:n]...)
			gone(t, what, d.Back(), n-safe)
			both(t, what, d, x, all[:safe], safe)
			gone(t, what+", again", d.Back(), 0)
			both(t, what+", again", d, x, all[:safe], safe)
			syncs(t, d)
			both(t, what+", synced", d, x, all[:safe], safe)
			both(t, what+", opened", opened(t, x), x, all[:safe], safe)
		}
	}
}

func TestBackAgainAndAgain(t *testing.T) {
	x, d := fresh(t, 100)
	writes(t, d, "one")
	syncs(t, d)
	want := list("one")
	for i := range 100 {
		text := long(i % 40)
		writes(t, d, text)
		both(t, "written", d, x, append(slices.Clip(want), text), 1)
		gone(t, "Back", d.Back(), 1)
		both(t, "gone Back", d, x, want, 1)
	}
}

// The tape syncs and goes back also where the diary has nothing to sync, and nothing to go back for.
func TestTheTapeFollows(t *testing.T) {
	x, d := fresh(t, 100)
	writes(t, d, "one")
	syncs(t, d)
	answers(t, "Append", x.Append([]byte("loose")), api.OK)
	gone(t, "Back", d.Back(), 0)
	stands(t, "Back", x, records("one"), "")
	answers(t, "Append", x.Append([]byte("loose")), api.OK)
	syncs(t, d)
	stands(t, "Sync", x, records("one")+"loose", "")
	writes(t, d, "two")
	stands(t, "Write", x, records("one")+"loose", record(2, "two"))
	gone(t, "Back", d.Back(), 1)
	stands(t, "Back", x, records("one")+"loose", "")
	has(t, "the diary", d, list("one"), 1)
}

// What happens to the tape behind its back changes a diary only when it is opened again.
func TestTheDiaryIsWhatItWas(t *testing.T) {
	for what, call := range map[string]func(x *tape.Tape){
		"Cut":    func(x *tape.Tape) { x.Cut(0) },
		"Crash":  func(x *tape.Tape) { x.Crash(0, 255) },
		"Back":   func(x *tape.Tape) { x.Back() },
		"Sync":   func(x *tape.Tape) { x.Sync() },
		"Append": func(x *tape.Tape) { x.Append([]byte(record(4, "four"))) },
	} {
		x, d := fresh(t, 200)
		writes(t, d, "one", "")
		syncs(t, d)
		writes(t, d, "three")
		call(x)
		has(t, what, d, list("one", "", "three"), 2)
		gone(t, what+", Back", d.Back(), 1)
		has(t, what+", Back", d, list("one", ""), 2)
		l, _ := Records(x.Read())
		var want []string
		for _, b := range l {
			want = append(want, string(b))
		}
		both(t, what+", opened", opened(t, x), x, want, len(want))
	}
}

// P14.4

// Example 1 of the chapter.
func TestExample(t *testing.T) {
	x, d := fresh(t, 100)
	writes(t, d, "a")
	syncs(t, d)
	writes(t, d, "b")
	gone(t, "Crash", x.Crash(3, 0), 18)
	both(t, "opened", opened(t, x), x, list("a"), 1)
}

// outlast returns how many of the loose records outlast a crash that keeps so many bytes and turns bits of the last one.
func outlast(loose []string, keep int, bits byte) int {
	keep = min(keep, len(records(loose...)))
	for i, text := range loose {
		size := extra + len(text)
		if keep < size || keep == size && bits != 0 {
			return i
		}
		keep -= size
	}
	return len(loose)
}

func TestCrash(t *testing.T) {
	all := list("one", "", "three", "4", "")
	for n := range len(all) + 1 {
		for safe := range n + 1 {
			most := len(records(all[safe:n]...))
			for keep := -1; keep <= most+2; keep++ {
				for _, bits := range []byte{0, 1, 2, 16, 127, 128, 255} {
					what := fmt.Sprintf("%d records, %d safe, Crash(%d, %d)", n, safe, keep, bits)
					x, d := fresh(t, 200)
					writes(t, d, all[:safe]...)
					syncs(t, d)
					writes(t, d, all[safe:n]...)
					x.Crash(keep, bits)
					stay := safe + outlast(all[safe:n], keep, bits)
					d = opened(t, x)
					both(t, what, d, x, all[:stay], stay)
					writes(t, d, "next")
					both(t, what+", Write", d, x, append(slices.Clip(all[:stay]), "next"), stay)
					syncs(t, d)
					x.Crash(0, 255)
					both(t, what+", opened again", opened(t, x), x, append(slices.Clip(all[:stay]), "next"), stay+1)
					if t.Failed() {
						t.FailNow()
					}
				}
			}
		}
	}
}

// Whatever bits of whatever last byte are turned, no record is there that was not written.
func TestCrashWithAnyBits(t *testing.T) {
	loose := list("two", "", "four")
	most := len(records(loose...))
	for keep := range most + 2 {
		for bits := range 256 {
			x, d := fresh(t, 200)
			writes(t, d, "one")
			syncs(t, d)
			writes(t, d, loose...)
			x.Crash(keep, byte(bits))
			n := outlast(loose, keep, byte(bits))
			both(t, fmt.Sprintf("Crash(%d, %d)", keep, bits), opened(t, x), x, append(list("one"), loose[:n]...), 1+n)
		}
	}
}

func TestCrashOfALongRecord(t *testing.T) {
	for _, keep := range []int{0, 1, 11, 12, 19, 20, 21, 30000, 60019, 60020, 60021, 60030, 60040, 70000} {
		for _, bits := range []byte{0, 128} {
			x, d := fresh(t, 130000)
			writes(t, d, "one")
			syncs(t, d)
			loose := list(long(60000), "")
			writes(t, d, loose...)
			x.Crash(keep, bits)
			n := outlast(loose, keep, bits)
			both(t, fmt.Sprintf("Crash(%d, %d)", keep, bits), opened(t, x), x, append(list("one"), loose[:n]...), 1+n)
		}
	}
}

// A crash that keeps a piece of what is written behind Back brings back nothing of what was there before.
func TestCrashBehindBack(t *testing.T) {
	for keep := range 30 {
		x, d := fresh(t, 200)
		writes(t, d, "one")
		syncs(t, d)
		writes(t, d, "two", "three")
		gone(t, "Back", d.Back(), 2)
		writes(t, d, "new")
		x.Crash(keep, 0)
		n := outlast(list("new"), keep, 0)
		both(t, fmt.Sprintf("Crash(%d, 0)", keep), opened(t, x), x, list("one", "new")[:1+n], 1+n)
	}
}

// A diary that nobody made

func TestNobodyMadeIt(t *testing.T) {
	for what, d := range map[string]*Diary{"nil": nil, "the zero diary": {}} {
		for range 2 {
			for _, n := range []int{0, 1, 100, 60000, 60001, 70000} {
				answers(t, what, d.Write(make([]byte, n)), api.ErrNil)
			}
			answers(t, what, d.Write(nil), api.ErrNil)
			has(t, what, d, nil, 0)
			answers(t, what, d.Sync(), api.ErrNil)
			has(t, what, d, nil, 0)
			gone(t, what, d.Back(), 0)
			has(t, what, d, nil, 0)
		}
	}
}

// All promises together

// told tells the records that bytes begin with, the slow way: all those that the bytes may be, one after the other.
func told(s string) (texts []string, size int) {
	for {
		left := s[size:]
		if len(left) < extra {
			return texts, size
		}
		n := int(binary.LittleEndian.Uint32([]byte(left[4:8]))) - 8
		if n < 0 || n > 60000 || n > len(left)-extra {
			return texts, size
		}
		text := left[extra : extra+n]
		if left[:extra+n] != record(uint64(len(texts))+1, text) {
			return texts, size
		}
		texts = append(texts, text)
		size += extra + n
	}
}

// model is a diary and its tape, the slow way: each byte and each record tells of itself whether it is safe.
type model struct {
	most    int
	bytes   []modelByte
	records []modelRecord
}

type modelByte struct {
	value byte
	safe  bool
}

type modelRecord struct {
	text string
	safe bool
}

// parts returns the tape's bytes, the safe ones and the loose ones.
func (m *model) parts() (safe, loose string) {
	for _, b := range m.bytes {
		if b.safe {
			safe += string([]byte{b.value})
		} else {
			loose += string([]byte{b.value})
		}
	}
	return safe, loose
}

// has returns the records, and how many of them are safe.
func (m *model) has() (l []string, safe int) {
	for _, r := range m.records {
		l = append(l, r.text)
		if r.safe {
			safe++
		}
	}
	return l, safe
}

// put puts bytes on the tape, if it has room for them.
func (m *model) put(s string) api.Errno {
	if len(m.bytes)+len(s) > m.most {
		return api.ErrFull
	}
	for _, b := range []byte(s) {
		m.bytes = append(m.bytes, modelByte{value: b})
	}
	return api.OK
}

func (m *model) crash(keep int, bits byte) {
	last := -1
	m.bytes = slices.DeleteFunc(m.bytes, func(b modelByte) bool {
		if b.safe {
			return false
		}
		keep--
		return keep < 0
	})
	for i := range m.bytes {
		if !m.bytes[i].safe {
			last = i
		}
		m.bytes[i].safe = true
	}
	if last >= 0 {
		m.bytes[last].value ^= bits
	}
}

func (m *model) open() {
	safe, loose := m.parts()
	texts, size := told(safe + loose)
	m.bytes = m.bytes[:size]
	for i := range m.bytes {
		m.bytes[i].safe = true
	}
	m.records = nil
	for _, text := range texts {
		m.records = append(m.records, modelRecord{text, true})
	}
}

func (m *model) write(text string) api.Errno {
	e := m.put(record(uint64(len(m.records))+1, text))
	if e == api.OK {
		m.records = append(m.records, modelRecord{text: text})
	}
	return e
}

func (m *model) sync() {
	for i := range m.records {
		m.records[i].safe = true
	}
	for i := range m.bytes {
		m.bytes[i].safe = true
	}
}

func (m *model) back() int {
	was := len(m.records)
	m.records = slices.DeleteFunc(m.records, func(r modelRecord) bool { return !r.safe })
	m.bytes = slices.DeleteFunc(m.bytes, func(b modelByte) bool { return !b.safe })
	return was - len(m.records)
}

// crashAndOpen crashes the tape of a diary and of its model, and opens both again. It checks that all safe records are
// there then, and behind them a beginning of the others.
func crashAndOpen(t *testing.T, x *tape.Tape, m *model, keep int, bits byte) *Diary {
	t.Helper()
	was, safe := m.has()
	x.Crash(keep, bits)
	m.crash(keep, bits)
	m.open()
	is, _ := m.has()
	if len(is) < safe || len(is) > len(was) || !slices.Equal(is, was[:len(is)]) {
		t.Fatalf("Crash(%d, %d) of %.40q, %d safe: %.40q", keep, bits, was, safe, is)
	}
	return opened(t, x)
}

func TestAnyCallsInAnyOrder(t *testing.T) {
	dice := dice(14)
	for range 1500 {
		most := dice.below(250)
		x, d := fresh(t, most)
		m := &model{most: most}
		for range 50 {
			var what string
			switch dice.below(10) {
			case 0, 1:
				what = "Sync"
				syncs(t, d)
				m.sync()
			case 2:
				what = "Back"
				gone(t, what, d.Back(), m.back())
			case 3:
				keep, bits := dice.below(60)-2, byte(dice.below(3)*85)
				what = fmt.Sprintf("Crash(%d, %d)", keep, bits)
				d = crashAndOpen(t, x, m, keep, bits)
			case 4:
				what = "Open"
				d = opened(t, x)
				m.open()
			default:
				text := dice.text(dice.below(30))
				what = fmt.Sprintf("Write(%q)", text)
				answers(t, what, d.Write([]byte(text)), m.write(text))
			}
			l, n := m.has()
			has(t, what, d, l, n)
			safe, loose := m.parts()
			stands(t, what, x, safe, loose)
			if t.Failed() {
				t.FailNow()
			}
		}
	}
}

// So it is also where others write to the tape, and where it crashes without being opened again.
func TestAnyCallsInAnyOrderAmongOthers(t *testing.T) {
	dice := dice(15)
	for range 1500 {
		most := dice.below(400)
		x, d := fresh(t, most)
		m := &model{most: most}
		for range 40 {
			var what string
			switch dice.below(12) {
			case 0:
				what = "Sync"
				syncs(t, d)
				m.sync()
			case 1:
				what = "Back"
				gone(t, what, d.Back(), m.back())
			case 2:
				keep, bits := dice.below(60)-2, byte(dice.below(256))
				what = fmt.Sprintf("Crash(%d, %d)", keep, bits)
				x.Crash(keep, bits)
				m.crash(keep, bits)
			case 3, 4:
				what = "Open"
				d = opened(t, x)
				m.open()
			case 5:
				s := dice.text(dice.below(4))
				what = fmt.Sprintf("Append(%q)", s)
				answers(t, what, x.Append([]byte(s)), m.put(s))
			case 6:
				s := frame(dice.below(4), digits(uint64(dice.below(5)))[:8-dice.below(5)/4]+dice.text(dice.below(3)))
				what = fmt.Sprintf("Append(%q)", s)
				answers(t, what, x.Append([]byte(s)), m.put(s))
			case 7:
				s := record(uint64(len(m.records)+dice.below(3)), dice.text(dice.below(3)))
				what = fmt.Sprintf("Append(%q)", s)
				answers(t, what, x.Append([]byte(s)), m.put(s))
			default:
				text := dice.text(dice.below(20))
				what = fmt.Sprintf("Write(%q)", text)
				answers(t, what, d.Write([]byte(text)), m.write(text))
			}
			l, n := m.has()
			has(t, what, d, l, n)
			safe, loose := m.parts()
			stands(t, what, x, safe, loose)
			if t.Failed() {
				t.FailNow()
			}
		}
	}
}

// Records tells what the slow way tells, of any frames one behind the other and any bytes behind them.
func TestRecordsOfAnyFrames(t *testing.T) {
	dice := dice(16)
	longest := 0
	for range 20000 {
		var s string
		n := uint64(0)
		for range dice.below(8) {
			switch dice.below(12) {
			case 0:
				s += frame(dice.below(4), digits(n + 1)[:dice.below(9)])
			case 1:
				s += record(n+uint64(dice.below(3)), dice.text(dice.below(3)))
			case 2:
				s += dice.text(dice.below(2))
			default:
				n++
				s += record(n, dice.text(dice.below(9)))
			}
		}
		want, size := told(s)
		longest = max(longest, len(want))
		tells(t, fmt.Sprintf("%q", s), s, want, size)
		if t.Failed() {
			t.FailNow()
		}
	}
	if longest < 6 {
		t.Errorf("at most %d records", longest)
	}
}

// The same calls have the same answers on two diaries, though the spare capacity of what they are given differs.
func TestSameCallsSameAnswers(t *testing.T) {
	dice := dice(17)
	for range 200 {
		x, one := fresh(t, 200)
		y, two := fresh(t, 200)
		for range 40 {
			switch n := dice.below(60) - 2; dice.below(6) {
			case 0:
				answers(t, "Sync", two.Sync(), one.Sync())
			case 1:
				gone(t, "Back", two.Back(), one.Back())
			case 2:
				x.Crash(n, byte(n))
				y.Crash(n, byte(n))
				one, two = opened(t, x), opened(t, y)
			default:
				b := []byte(dice.text(dice.below(30)))
				answers(t, "Write", two.Write(append(make([]byte, 0, 50), b...)), one.Write(slices.Clip(b)))
			}
			all, safe := one.Len()
			var want []string
			for n := range all {
				b, _ := one.Get(n + 1)
				want = append(want, string(b))
			}
			has(t, "the other one", two, want, safe)
		}
	}
}

// Memory

// scribble writes over a slice and its spare capacity.
func scribble(b []byte) {
	b = b[:cap(b)]
	for i := range b {
		b[i] = '!'
	}
}

func TestFrameIsApart(t *testing.T) {
	for n := range 40 {
		whole := []byte(long(100))
		b := whole[30 : 30+n]
		one, two := Frame(7, b), Frame(7, b)
		want := record(7, long(100)[30:30+n])
		if string(whole) != long(100) {
			t.Errorf("Frame changed its argument, or what stands beside it: %q", whole)
		}
		scribble(one)
		if string(two) != want {
			t.Errorf("what was returned before is %q, want %q", two, want)
		}
		scribble(two)
		scribble(append(Frame(7, b), "more"...))
		if string(whole) != long(100) {
			t.Errorf("what was returned is the argument's memory: %q", whole)
		}
		three := Frame(7, b)
		scribble(whole)
		if string(three) != want {
			t.Errorf("later it is %q, want %q", three, want)
		}
	}
}

func TestRecordsAreApart(t *testing.T) {
	want := list("one", "", "three", long(100), "")
	s := records(want...) + "others"
	whole := []byte("ahead" + s + record(6, "six"))
	b := whole[5 : 5+len(s)]
	one, _ := Records(b)
	two, _ := Records(b)
	if string(whole) != "ahead"+s+record(6, "six") {
		t.Error("Records changed its argument, or what stands beside it")
	}
	for i, r := range one {
		scribble(r)
		for j, other := range one {
			if j > i && string(other) != want[j] {
				t.Errorf("record %d is in the memory of record %d", j+1, i+1)
			}
		}
	}
	same(t, "what was returned before", two, want)
	for _, r := range two {
		_ = append(r, strings.Repeat("!", 200)...)
		_ = append(r, '!')
	}
	same(t, "what was returned before, appended to", two, want)
	three, size := Records(b)
	if same(t, "told again", three, want); size != len(s)-6 {
		t.Errorf("%d bytes", size)
	}
	if string(whole) != "ahead"+s+record(6, "six") {
		t.Error("what was returned is the argument's memory")
	}
	scribble(whole)
	same(t, "later", three, want)
}

// What stands in the spare capacity isn't told.
func TestSpareCapacityIsNotTold(t *testing.T) {
	b := []byte(records("one", "two"))
	for n := range 23 {
		l, size := Records(b[:23+n])
		if same(t, "one whole", l, list("one")); size != 23 {
			t.Errorf("%d bytes, want 23", size)
		}
		l, size = Records(b[:n])
		if same(t, "none whole", l, nil); size != 0 {
			t.Errorf("%d bytes, want 0", size)
		}
	}
}

func TestSpareCapacityDoesNotCount(t *testing.T) {
	b := []byte(long(200000))
	x, d := fresh(t, 60061)
	for _, n := range []int{0, 2, 60000} {
		text := long(n)
		if string(Frame(1, b[:n])) != record(1, text) {
			t.Errorf("Frame of %d bytes is not the record", n)
		}
	}
	answers(t, "Write", d.Write(b[:2]), api.OK)
	answers(t, "Write", d.Write(b[:0]), api.OK)
	both(t, "written", d, x, list("01", ""), 0)
	answers(t, "Write", d.Write(b[:60000:60000]), api.ErrFull)
	gone(t, "Back", d.Back(), 2)
	answers(t, "Write", d.Write(b[:60000]), api.OK)
	both(t, "written", d, x, list(long(60000)), 0)
}

func TestWriteKeepsNothingOfItsArgument(t *testing.T) {
	whole := []byte("abcdefgh")
	b := whole[2:5]
	x, d := fresh(t, 200)
	writes(t, d, "one")
	answers(t, "Write", d.Write(b), api.OK)
	copy(whole, "XXXXXXXX")
	both(t, "changed", d, x, list("one", "cde"), 0)
	answers(t, "Write", d.Write(b), api.OK)
	copy(whole, "YYYYYYYY")
	both(t, "changed", d, x, list("one", "cde", "XXX"), 0)
	syncs(t, d)
	copy(whole, "ZZZZZZZZ")
	both(t, "changed", d, x, list("one", "cde", "XXX"), 3)
	answers(t, "Write", d.Write(b[:0]), api.OK)
	copy(whole, "........")
	both(t, "changed", d, x, list("one", "cde", "XXX", ""), 3)
	both(t, "opened", opened(t, x), x, list("one", "cde", "XXX", ""), 4)
}

func TestNoCallChangesWhatWasWritten(t *testing.T) {
	whole := []byte("abcdefgh")
	b := whole[2:5]
	x, d := fresh(t, 100)
	for i, call := range []func(){
		func() { d.Write(b) },
		func() { d.Write([]byte("XY")) },
		func() { d.Back() },
		func() { d.Write([]byte("XYZ")) },
		func() { d.Write(b) },
		func() { d.Sync() },
		func() { d.Write(b) },
		func() { x.Crash(10, 255) },
		func() { d, _ = Open(x) },
		func() { d.Write(whole) },
		func() { d.Write(whole) },
		func() { d.Write(whole) },
		func() { d.Back() },
		func() { scribble(get(d, 1)) },
		func() { scribble(get(d, 2)) },
		func() { x.Cut(0) },
		func() { x.Append([]byte(long(100))) },
		func() { d, _ = Open(x) },
	} {
		call()
		if string(whole) != "abcdefgh" {
			t.Fatalf("behind call %d it is %q", i, whole)
		}
	}
}

// get returns a record, or nothing.
func get(d *Diary, n int) []byte {
	b, _ := d.Get(n)
	return b
}

func TestSpareCapacityStays(t *testing.T) {
	for n := range 30 {
		for spare := range 30 {
			whole := bytes.Repeat([]byte("s"), n+spare)
			x, d := fresh(t, 500)
			answers(t, "Write", d.Write(whole[:n]), api.OK)
			writes(t, d, "0123456789")
			scribble(get(d, 1))
			syncs(t, d)
			answers(t, "Write", d.Write(whole[:n]), api.OK)
			x.Crash(15, 255)
			scribble(get(d, 3))
			gone(t, "Back", d.Back(), 1)
			writes(t, d, "0123456789")
			if !bytes.Equal(whole, bytes.Repeat([]byte("s"), n+spare)) {
				t.Errorf("%d bytes and %d spare ones: now %q", n, spare, whole)
			}
		}
	}
}

func TestWhatIsGotIsApart(t *testing.T) {
	x, d := fresh(t, 500)
	for _, c := range []struct {
		call func()
		want []string
		safe int
	}{
		{func() { writes(t, d, "one", "", "three") }, list("one", "", "three"), 0},
		{func() { syncs(t, d) }, list("one", "", "three"), 3},
		{func() { writes(t, d, "four", "five") }, list("one", "", "three", "four", "five"), 3},
		{func() { d.Back() }, list("one", "", "three"), 3},
		{func() { writes(t, d, "four") }, list("one", "", "three", "four"), 3},
		{func() { d = opened(t, x) }, list("one", "", "three", "four"), 4},
		{func() { writes(t, d, "5", "6") }, list("one", "", "three", "four", "5", "6"), 4},
	} {
		c.call()
		for n := range len(c.want) {
			one, two := get(d, n+1), get(d, n+1)
			scribble(one)
			if string(two) != c.want[n] {
				t.Errorf("what was got before is %q, want %q", two, c.want[n])
			}
			scribble(two)
			scribble(append(get(d, n+1), "more"...))
		}
		both(t, "scribbled over", d, x, c.want, c.safe)
	}
}

// What was got once is not what the diary fills later, nor is its spare capacity.
func TestWhatWasGotIsApartLater(t *testing.T) {
	x, d := fresh(t, 500)
	var old [][]byte
	for _, c := range []struct {
		call func()
		want []string
		safe int
	}{
		{func() { writes(t, d, "one", "", "three") }, list("one", "", "three"), 0},
		{func() { d.Back() }, nil, 0},
		{func() { writes(t, d, "ONE", "TWO", "3") }, list("ONE", "TWO", "3"), 0},
		{func() { syncs(t, d) }, list("ONE", "TWO", "3"), 3},
		{func() { writes(t, d, "four", "five") }, list("ONE", "TWO", "3", "four", "five"), 3},
		{func() { d.Back() }, list("ONE", "TWO", "3"), 3},
		{func() { writes(t, d, "4") }, list("ONE", "TWO", "3", "4"), 3},
		{func() { d = opened(t, x) }, list("ONE", "TWO", "3", "4"), 4},
		{func() { writes(t, d, "five") }, list("ONE", "TWO", "3", "4", "five"), 4},
	} {
		c.call()
		for _, b := range old {
			scribble(b)
		}
		both(t, "what was got before is scribbled over", d, x, c.want, c.safe)
		for n := range len(c.want) {
			old = append(old, get(d, n+1))
		}
	}
}

func TestWhatWasGotStays(t *testing.T) {
	x, d := fresh(t, 500)
	writes(t, d, "one")
	syncs(t, d)
	writes(t, d, "two")
	one, two := get(d, 1), get(d, 2)
	for i, call := range []func(){
		func() { d.Back() },
		func() { writes(t, d, "XXX", "YYY") },
		func() { d.Sync() },
		func() { x.Cut(0) },
		func() { x.Append([]byte(records("111", "222", "333"))) },
		func() { d = opened(t, x) },
		func() { d.Write([]byte("ZZZ")) },
		func() { d.Back() },
	} {
		call()
		if string(one) != "one" || string(two) != "two" {
			t.Fatalf("behind call %d what was got is %q and %q", i, one, two)
		}
	}
}

// What a diary is given may be what it, or another one, returned.
func TestWriteOfWhatWasGot(t *testing.T) {
	x, d := fresh(t, 500)
	y, other := fresh(t, 500)
	writes(t, d, "one", "two")
	b := get(d, 1)
	answers(t, "Write", d.Write(b), api.OK)
	answers(t, "Write", other.Write(b), api.OK)
	scribble(b)
	both(t, "the one", d, x, list("one", "two", "one"), 0)
	both(t, "the other one", other, y, list("one"), 0)
	syncs(t, d)
	gone(t, "Back", other.Back(), 1)
	writes(t, other, "new")
	both(t, "the one", d, x, list("one", "two", "one"), 3)
	both(t, "the other one", other, y, list("new"), 0)
}

func TestDiariesAreApart(t *testing.T) {
	x, one := fresh(t, 300)
	y, two := fresh(t, 300)
	b := []byte("both")
	answers(t, "Write", one.Write(b), api.OK)
	answers(t, "Write", two.Write(b), api.OK)
	syncs(t, one)
	both(t, "the one", one, x, list("both"), 1)
	both(t, "the other one", two, y, list("both"), 0)
	writes(t, one, "more")
	gone(t, "Back", two.Back(), 1)
	both(t, "the one", one, x, list("both", "more"), 1)
	both(t, "the other one", two, y, nil, 0)
	writes(t, two, "next")
	both(t, "the one", one, x, list("both", "more"), 1)
	both(t, "the other one", two, y, list("next"), 0)
}
