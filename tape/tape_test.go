package tape

import (
	"bytes"
	"fmt"
	"math"
	"slices"
	"strings"
	"testing"

	"coldframe/api"
)

// dice makes numbers that look as if they were random; the seed tells which.
type dice uint64

// below returns a number from 0 to n - 1.
func (d *dice) below(n int) int {
	*d = *d*6364136223846793005 + 1442695040888963407
	return int(*d>>33) % n
}

// bytes makes n bytes.
func (d *dice) bytes(n int) []byte {
	b := make([]byte, n)
	for i := range b {
		b[i] = byte(d.below(256))
	}
	return b
}

// most is how many bytes may be on a tape made by with.
const most = 10

// with makes a tape for at most 10 bytes that has these, the first ones safe, the others loose.
func with(t *testing.T, safe, loose string) *Tape {
	t.Helper()
	x := New(most)
	answers(t, "Append", x.Append([]byte(safe)), api.OK)
	answers(t, "Sync", x.Sync(), api.OK)
	answers(t, "Append", x.Append([]byte(loose)), api.OK)
	return x
}

// answers checks an error.
func answers(t *testing.T, what string, e, want api.Errno) {
	t.Helper()
	if e != want {
		t.Errorf("%s: error %d, want %d", what, e, want)
	}
}

// gone checks how many bytes a call removed.
func gone(t *testing.T, what string, got, want int) {
	t.Helper()
	if got != want {
		t.Errorf("%s: %d bytes are gone, want %d", what, got, want)
	}
}

// has checks which bytes are safe, and which loose.
func has(t *testing.T, what string, x *Tape, safe, loose string) {
	t.Helper()
	if a, s := x.Len(); a != len(safe)+len(loose) || s != len(safe) {
		t.Errorf("%s: Len is %d, %d; want %d, %d", what, a, s, len(safe)+len(loose), len(safe))
	}
	if b := x.Read(); string(b) != safe+loose {
		t.Errorf("%s: Read is %.80q, want %.80q", what, b, safe+loose)
	}
}

// takes checks that just n bytes may still be appended; they are loose, and then the tape is full.
func takes(t *testing.T, what string, x *Tape, n int) {
	t.Helper()
	_, safe := x.Len()
	had := string(x.Read())
	answers(t, what+", one too many", x.Append(make([]byte, n+1)), api.ErrFull)
	has(t, what+", one too many", x, had[:safe], had[safe:])
	rest := strings.Repeat(".", n)
	answers(t, what+", the rest", x.Append([]byte(rest)), api.OK)
	had += rest
	has(t, what+", the rest", x, had[:safe], had[safe:])
	answers(t, what+", full", x.Append([]byte("x")), api.ErrFull)
	has(t, what+", full", x, had[:safe], had[safe:])
}

// clamped returns n, or 0 if it is below that, or top if it is above that.
func clamped(n, top int) int {
	switch {
	case n < 0:
		return 0
	case n > top:
		return top
	}
	return n
}

// numbers are those that a call may be given, also wrong ones.
var numbers = []int{math.MinInt, -1 << 32, -2, -1, 0, 1, 2, 3, 4, 5, 6, 7, 8, 9, 10, 11, 12, 100, 1 << 31, 1 << 32, 1<<32 + 1, math.MaxInt}

// model is a tape, the slow way: each byte tells of itself whether it is safe.
type model struct {
	most int
	list []modelByte
}

type modelByte struct {
	value byte
	safe  bool
}

// parts returns the safe bytes and the loose ones. It fails if a loose byte stands ahead of a safe one.
func (m *model) parts(t *testing.T) (safe, loose string) {
	t.Helper()
	for _, b := range m.list {
		switch {
		case b.safe && loose != "":
			t.Fatal("the model has a loose byte ahead of a safe one")
		case b.safe:
			safe += string([]byte{b.value})
		default:
			loose += string([]byte{b.value})
		}
	}
	return safe, loose
}

func (m *model) append(b string) api.Errno {
	was := len(m.list)
	for i := range len(b) {
		if len(m.list) == m.most {
			m.list = m.list[:was]
			return api.ErrFull
		}
		m.list = append(m.list, modelByte{value: b[i]})
	}
	return api.OK
}

func (m *model) sync() api.Errno {
	for i := range m.list {
		m.list[i].safe = true
	}
	return api.OK
}

func (m *model) back() int {
	n := 0
	m.list = slices.DeleteFunc(m.list, func(b modelByte) bool {
		if !b.safe {
			n++
		}
		return !b.safe
	})
	return n
}

func (m *model) cut(n int) api.Errno {
	if n < 0 || n > len(m.list) {
		return api.ErrArg
	}
	for len(m.list) > n {
		m.list = m.list[:len(m.list)-1]
	}
	return m.sync()
}

// crash goes byte by byte.
func (m *model) crash(keep int, bits byte) int {
	last := -1
	for i := range m.list {
		if !m.list[i].safe && keep > 0 {
			m.list[i].safe = true
			keep--
			last = i
		}
	}
	if last >= 0 {
		m.list[last].value ^= bits
	}
	return m.back()
}

// P13.1

func TestNew(t *testing.T) {
	for _, n := range []int{0, 1, 2, 3, 10, 255, 256, 257, 4096, 65535, 65536, 65537, 1 << 20} {
		what := fmt.Sprintf("New(%d)", n)
		x := New(n)
		if x == nil {
			t.Fatalf("%s: nil", what)
		}
		has(t, what, x, "", "")
		takes(t, what, x, n)
	}
}

func TestNewBelowZeroCountsAsZero(t *testing.T) {
	for _, n := range []int{math.MinInt, math.MinInt + 1, -1 << 32, -1<<32 + 5, -256, -2, -1, 0} {
		what := fmt.Sprintf("New(%d)", n)
		x := New(n)
		if x == nil {
			t.Fatalf("%s: nil", what)
		}
		has(t, what, x, "", "")
		for _, b := range [][]byte{nil, {}, make([]byte, 0, 9)} {
			answers(t, what+", Append of nothing", x.Append(b), api.OK)
			has(t, what, x, "", "")
		}
		takes(t, what, x, 0)
		answers(t, what+", Sync", x.Sync(), api.OK)
		answers(t, what+", Cut of none", x.Cut(0), api.OK)
		answers(t, what+", Cut of one", x.Cut(1), api.ErrArg)
		gone(t, what+", Crash", x.Crash(1, 255), 0)
		gone(t, what+", Back", x.Back(), 0)
		takes(t, what, x, 0)
	}
}

// A tape for very many bytes takes up memory only as they come.
func TestNewOfVeryMany(t *testing.T) {
	start := "abc" + strings.Repeat(".", 1000)
	for _, n := range []int{1 << 31, 1<<32 - 1, 1 << 32, 1<<32 + 1, math.MaxInt - 1, math.MaxInt} {
		what := fmt.Sprintf("New(%d)", n)
		x := New(n)
		has(t, what, x, "", "")
		answers(t, what, x.Append([]byte("abc")), api.OK)
		answers(t, what, x.Append([]byte(start[3:])), api.OK)
		answers(t, what, x.Sync(), api.OK)
		answers(t, what, x.Append([]byte("def")), api.OK)
		has(t, what, x, start, "def")
		answers(t, what, x.Cut(n), api.ErrArg)
		gone(t, what, x.Crash(n, 1), 0)
		has(t, what, x, start+"deg", "")
	}
}

// There is no limit but the one that New was given.
func TestManyBytes(t *testing.T) {
	for _, n := range []int{5 << 20, math.MaxInt} {
		what := fmt.Sprintf("New(%d)", n)
		x := New(n)
		for i := range 5 {
			answers(t, what, x.Append(bytes.Repeat([]byte{byte(i)}, 1<<20)), api.OK)
		}
		if all, safe := x.Len(); all != 5<<20 || safe != 0 {
			t.Errorf("%s: Len is %d, %d", what, all, safe)
		}
		gone(t, what, x.Crash(5<<20-1, 7), 1)
		if b := x.Read(); len(b) != 5<<20-1 || b[4<<20] != 4 || b[5<<20-2] != 3 {
			t.Errorf("%s: %d bytes are read", what, len(b))
		}
	}
}

func TestLenAndRead(t *testing.T) {
	for _, c := range []struct{ safe, loose string }{
		{"", ""},
		{"", "a"},
		{"", "abcdefghij"},
		{"a", ""},
		{"abcdefghij", ""},
		{"a", "b"},
		{"abcdefghi", "j"},
		{"a", "bcdefghij"},
		{"abc", "defg"},
		{"\x00\xff", "\x00\x80"},
	} {
		x := with(t, c.safe, c.loose)
		for range 3 {
			has(t, "again and again", x, c.safe, c.loose)
		}
	}
}

func TestReadOfEveryByte(t *testing.T) {
	var all []byte
	for i := range 256 {
		all = append(all, byte(i))
	}
	x := New(512)
	answers(t, "Append", x.Append(all), api.OK)
	has(t, "loose", x, "", string(all))
	answers(t, "Sync", x.Sync(), api.OK)
	answers(t, "Append", x.Append(all), api.OK)
	has(t, "both", x, string(all), string(all))
}

// P13.2

func TestAppendGoesBehindAll(t *testing.T) {
	x := New(most)
	for _, c := range []struct{ b, loose string }{{"c", "c"}, {"ab", "cab"}, {"", "cab"}, {"c", "cabc"}, {"aaaaaa", "cabcaaaaaa"}} {
		answers(t, "Append", x.Append([]byte(c.b)), api.OK)
		has(t, "Append of "+c.b, x, "", c.loose)
	}
	x = with(t, "xyz", "")
	for _, c := range []struct{ b, loose string }{{"c", "c"}, {"ab", "cab"}, {"", "cab"}, {"c", "cabc"}} {
		answers(t, "Append", x.Append([]byte(c.b)), api.OK)
		has(t, "Append of "+c.b, x, "xyz", c.loose)
	}
	answers(t, "Sync", x.Sync(), api.OK)
	answers(t, "Append", x.Append([]byte("d")), api.OK)
	has(t, "Append behind Sync", x, "xyzcabc", "d")
}

func TestAppendOfNothing(t *testing.T) {
	for _, c := range []struct{ safe, loose string }{{"", ""}, {"", "ab"}, {"ab", ""}, {"ab", "cd"}, {"abcde", "fghij"}, {"", "abcdefghij"}, {"abcdefghij", ""}} {
		x := with(t, c.safe, c.loose)
		for _, b := range [][]byte{nil, {}, make([]byte, 0, 20), []byte("abc")[:0]} {
			answers(t, "Append of nothing", x.Append(b), api.OK)
			has(t, "Append of nothing", x, c.safe, c.loose)
		}
	}
}

func TestAppendFills(t *testing.T) {
	for safe := range most + 1 {
		for loose := range most - safe + 1 {
			had := "abcdefghij"[:safe+loose]
			for n := range 3 * most {
				what := fmt.Sprintf("Append of %d bytes behind %d safe and %d loose ones", n, safe, loose)
				x := with(t, had[:safe], had[safe:])
				more := strings.Repeat("+", n)
				if safe+loose+n > most {
					for range 2 {
						answers(t, what, x.Append([]byte(more)), api.ErrFull)
						has(t, what, x, had[:safe], had[safe:])
					}
					takes(t, what, x, most-safe-loose)
					continue
				}
				answers(t, what, x.Append([]byte(more)), api.OK)
				has(t, what, x, had[:safe], had[safe:]+more)
				takes(t, what, x, most-safe-loose-n)
			}
		}
	}
}

func TestAppendByteByByte(t *testing.T) {
	x := New(most)
	for i := range most {
		answers(t, "Append", x.Append([]byte{'a' + byte(i)}), api.OK)
		has(t, "Append", x, "", "abcdefghij"[:i+1])
	}
	for range 3 {
		answers(t, "Append", x.Append([]byte("k")), api.ErrFull)
		has(t, "Append", x, "", "abcdefghij")
	}
	answers(t, "Sync", x.Sync(), api.OK)
	answers(t, "Append behind Sync", x.Append([]byte("k")), api.ErrFull)
	has(t, "Append behind Sync", x, "abcdefghij", "")
}

func TestAppendWhereRoomWasMade(t *testing.T) {
	for _, c := range []struct {
		what string
		call func(x *Tape)
		safe string
	}{
		{"Back", func(x *Tape) { x.Back() }, "abcd"},
		{"Cut among the safe ones", func(x *Tape) { x.Cut(1) }, "a"},
		{"Cut to the safe ones", func(x *Tape) { x.Cut(4) }, "abcd"},
		{"Cut among the loose ones", func(x *Tape) { x.Cut(7) }, "abcdefg"},
		{"Cut of all", func(x *Tape) { x.Cut(0) }, ""},
		{"Crash that keeps none", func(x *Tape) { x.Crash(0, 1) }, "abcd"},
		{"Crash that keeps some", func(x *Tape) { x.Crash(2, 1) }, "abcdeg"},
		{"Crash that keeps all", func(x *Tape) { x.Crash(6, 1) }, "abcdefghik"},
	} {
		x := with(t, "abcd", "efghij")
		answers(t, "full", x.Append([]byte("x")), api.ErrFull)
		c.call(x)
		has(t, c.what, x, c.safe, "")
		takes(t, c.what, x, most-len(c.safe))
	}
}

func TestSync(t *testing.T) {
	for _, c := range []struct{ safe, loose string }{{"", ""}, {"", "a"}, {"", "abc"}, {"a", ""}, {"abc", ""}, {"ab", "c"}, {"a", "bc"}, {"abcd", "efghij"}} {
		x := with(t, c.safe, c.loose)
		for _, what := range []string{"Sync", "Sync again", "a third Sync"} {
			answers(t, what, x.Sync(), api.OK)
			has(t, what, x, c.safe+c.loose, "")
		}
		gone(t, "Back", x.Back(), 0)
		gone(t, "Crash", x.Crash(0, 255), 0)
		has(t, "what was synced", x, c.safe+c.loose, "")
		takes(t, "what was synced", x, most-len(c.safe+c.loose))
	}
}

func TestSyncStepByStep(t *testing.T) {
	x := New(most)
	answers(t, "Sync", x.Sync(), api.OK)
	has(t, "none", x, "", "")
	for i := range 5 {
		safe, more := "abcdefghij"[:2*i], "abcdefghij"[2*i:2*i+2]
		answers(t, "Append", x.Append([]byte(more[:1])), api.OK)
		answers(t, "Append", x.Append([]byte(more[1:])), api.OK)
		has(t, "Append", x, safe, more)
		answers(t, "Sync", x.Sync(), api.OK)
		has(t, "Sync", x, safe+more, "")
	}
}

func TestBack(t *testing.T) {
	for _, c := range []struct{ safe, loose string }{{"", ""}, {"", "a"}, {"", "abc"}, {"a", ""}, {"abc", ""}, {"ab", "c"}, {"a", "bc"}, {"abcd", "efghij"}} {
		x := with(t, c.safe, c.loose)
		gone(t, "Back", x.Back(), len(c.loose))
		has(t, "Back", x, c.safe, "")
		gone(t, "Back again", x.Back(), 0)
		has(t, "Back again", x, c.safe, "")
		takes(t, "Back", x, most-len(c.safe))
	}
}

func TestBackOfSeveralAppends(t *testing.T) {
	x := with(t, "ab", "")
	for _, b := range []string{"c", "", "def", "g"} {
		answers(t, "Append", x.Append([]byte(b)), api.OK)
	}
	gone(t, "Back", x.Back(), 5)
	has(t, "Back", x, "ab", "")
	answers(t, "Append", x.Append([]byte("xyz")), api.OK)
	has(t, "Append behind Back", x, "ab", "xyz")
	gone(t, "Back", x.Back(), 3)
	has(t, "Back", x, "ab", "")
	answers(t, "Append", x.Append([]byte("q")), api.OK)
	answers(t, "Sync", x.Sync(), api.OK)
	gone(t, "Back behind Sync", x.Back(), 0)
	has(t, "Back behind Sync", x, "abq", "")
}

func TestCut(t *testing.T) {
	for safe := range most + 1 {
		for loose := range most - safe + 1 {
			had := "abcdefghij"[:safe+loose]
			for _, n := range numbers {
				what := fmt.Sprintf("Cut(%d) of %d safe and %d loose ones", n, safe, loose)
				x := with(t, had[:safe], had[safe:])
				if n < 0 || n > len(had) {
					answers(t, what, x.Cut(n), api.ErrArg)
					has(t, what, x, had[:safe], had[safe:])
					takes(t, what, x, most-len(had))
					continue
				}
				answers(t, what, x.Cut(n), api.OK)
				has(t, what, x, had[:n], "")
				gone(t, what+", Back", x.Back(), 0)
				has(t, what+", Back", x, had[:n], "")
				takes(t, what, x, most-n)
			}
		}
	}
}

func TestCutAgain(t *testing.T) {
	x := with(t, "abcd", "efgh")
	for _, c := range []struct {
		n    int
		e    api.Errno
		want string
	}{{6, api.OK, "abcdef"}, {7, api.ErrArg, "abcdef"}, {8, api.ErrArg, "abcdef"}, {6, api.OK, "abcdef"}, {4, api.OK, "abcd"}, {3, api.OK, "abc"}, {-1, api.ErrArg, "abc"}, {4, api.ErrArg, "abc"}, {0, api.OK, ""}, {1, api.ErrArg, ""}, {0, api.OK, ""}} {
		what := fmt.Sprintf("Cut(%d)", c.n)
		answers(t, what, x.Cut(c.n), c.e)
		has(t, what, x, c.want, "")
	}
	answers(t, "Append", x.Append([]byte("new")), api.OK)
	has(t, "Append behind Cut", x, "", "new")
	answers(t, "Cut", x.Cut(2), api.OK)
	has(t, "Cut of loose ones alone", x, "ne", "")
}

// P13.3

// Example 1 of the chapter.
func TestExample(t *testing.T) {
	x := New(most)
	answers(t, "Append", x.Append([]byte("abc")), api.OK)
	gone(t, "Crash", x.Crash(2, 0), 1)
	has(t, "Crash", x, "ab", "")
}

func TestCrash(t *testing.T) {
	for safe := range most + 1 {
		for loose := range most - safe + 1 {
			had := "abcdefghij"[:safe+loose]
			for _, keep := range numbers {
				for _, bits := range []byte{0, 1, 2, 'x', 127, 128, 255} {
					what := fmt.Sprintf("Crash(%d, %d) of %d safe and %d loose ones", keep, bits, safe, loose)
					x := with(t, had[:safe], had[safe:])
					stay := clamped(keep, loose)
					want := []byte(had[:safe+stay])
					if stay > 0 {
						want[safe+stay-1] ^= bits
					}
					gone(t, what, x.Crash(keep, bits), loose-stay)
					has(t, what, x, string(want), "")
					gone(t, what+", again", x.Crash(keep, bits), 0)
					has(t, what+", again", x, string(want), "")
					gone(t, what+", Back", x.Back(), 0)
					has(t, what+", Back", x, string(want), "")
					takes(t, what, x, most-len(want))
				}
			}
		}
	}
}

func TestCrashTurnsBits(t *testing.T) {
	for bits := range 256 {
		for b := range 256 {
			x := with(t, "s", "x"+string([]byte{byte(b)})+"y")
			gone(t, "Crash", x.Crash(2, byte(bits)), 1)
			has(t, fmt.Sprintf("%d turned by %d", b, bits), x, "sx"+string([]byte{byte(b ^ bits)}), "")
		}
	}
}

func TestCrashWithoutLooseBytes(t *testing.T) {
	for _, safe := range []string{"", "a", "abcdef", "abcdefghij"} {
		for bits := range 256 {
			for _, keep := range numbers {
				x := with(t, safe, "")
				what := fmt.Sprintf("Crash(%d, %d) of %q", keep, bits, safe)
				gone(t, what, x.Crash(keep, byte(bits)), 0)
				has(t, what, x, safe, "")
			}
		}
	}
}

// A crash that keeps none leaves the last safe byte as it was, whatever the bits are.
func TestCrashThatKeepsNone(t *testing.T) {
	for bits := range 256 {
		for _, keep := range []int{math.MinInt, -1, 0} {
			x := with(t, "abc", "def")
			what := fmt.Sprintf("Crash(%d, %d)", keep, bits)
			gone(t, what, x.Crash(keep, byte(bits)), 3)
			has(t, what, x, "abc", "")
		}
	}
}

func TestCrashAgain(t *testing.T) {
	x := with(t, "ab", "cdef")
	for _, c := range []struct {
		more string
		keep int
		bits byte
		gone int
		want string
	}{
		{"", 2, 1, 2, "abce"},
		{"", 2, 1, 0, "abce"},
		{"gh", 0, 1, 2, "abce"},
		{"gh", -1, 255, 2, "abce"},
		{"gh", 1, 0, 1, "abceg"},
		{"gh", 2, 3, 0, "abceggk"},
		{"xyz", 9, 128, 0, "abceggkxy\xfa"},
		{"", 9, 128, 0, "abceggkxy\xfa"},
	} {
		what := fmt.Sprintf("Append of %q, Crash(%d, %d)", c.more, c.keep, c.bits)
		answers(t, what, x.Append([]byte(c.more)), api.OK)
		gone(t, what, x.Crash(c.keep, c.bits), c.gone)
		has(t, what, x, c.want, "")
	}
}

// What several Appends wrote counts as one.
func TestCrashOfSeveralAppends(t *testing.T) {
	for keep := range 8 {
		x := with(t, "ab", "")
		for _, b := range []string{"c", "", "def", "gh"} {
			answers(t, "Append", x.Append([]byte(b)), api.OK)
		}
		stay := clamped(keep, 6)
		want := []byte("abcdefgh"[:2+stay])
		if stay > 0 {
			want[1+stay] ^= 16
		}
		gone(t, "Crash", x.Crash(keep, 16), 6-stay)
		has(t, "Crash", x, string(want), "")
	}
}

// What is safe is there behind any crash, as it was, whether it was made so by a Sync, a Cut or a crash.
func TestWhatIsSafeStays(t *testing.T) {
	for _, c := range []struct {
		what string
		make func(x *Tape)
	}{
		{"Sync", func(x *Tape) { x.Append([]byte("abcd")); x.Sync() }},
		{"Cut", func(x *Tape) { x.Append([]byte("abcdef")); x.Cut(4) }},
		{"Crash", func(x *Tape) { x.Append([]byte("abcdef")); x.Crash(4, 0) }},
	} {
		for keep := -1; keep < 8; keep++ {
			for _, loose := range []string{"", "x", "vwxyz"} {
				x := New(most)
				c.make(x)
				has(t, c.what, x, "abcd", "")
				answers(t, "Append", x.Append([]byte(loose)), api.OK)
				x.Crash(keep, 255)
				if b := x.Read(); !bytes.HasPrefix(b, []byte("abcd")) {
					t.Errorf("safe by %s, %q loose, Crash(%d, 255): %q", c.what, loose, keep, b)
				}
			}
		}
	}
}

// A tape that nobody made

func TestNilTape(t *testing.T) {
	var x *Tape
	for range 2 {
		for _, b := range [][]byte{nil, {}, []byte("x"), make([]byte, 100000)} {
			answers(t, "Append", x.Append(b), api.ErrNil)
		}
		answers(t, "Sync", x.Sync(), api.ErrNil)
		gone(t, "Back", x.Back(), 0)
		for _, n := range numbers {
			answers(t, "Cut", x.Cut(n), api.ErrNil)
			for _, bits := range []byte{0, 1, 255} {
				gone(t, "Crash", x.Crash(n, bits), 0)
			}
		}
		has(t, "a nil tape", x, "", "")
	}
}

// The chapter says nothing of it: on it nothing may be.
func TestZeroTape(t *testing.T) {
	x := &Tape{}
	has(t, "the zero tape", x, "", "")
	takes(t, "the zero tape", x, 0)
	answers(t, "Append of nothing", x.Append(nil), api.OK)
	answers(t, "Sync", x.Sync(), api.OK)
	gone(t, "Back", x.Back(), 0)
	gone(t, "Crash", x.Crash(1, 1), 0)
	answers(t, "Cut", x.Cut(0), api.OK)
	answers(t, "Cut", x.Cut(1), api.ErrArg)
	has(t, "the zero tape", x, "", "")
}

// All promises together

func TestAnyCallsInAnyOrder(t *testing.T) {
	dice := dice(13)
	for range 2000 {
		n := dice.below(14) - 2
		x, m := New(n), &model{most: max(0, n)}
		for range 60 {
			var what string
			n := dice.below(16) - 2
			switch dice.below(10) {
			case 0, 1:
				what = "Sync"
				answers(t, what, x.Sync(), m.sync())
			case 2:
				what = "Back"
				gone(t, what, x.Back(), m.back())
			case 3:
				what = fmt.Sprintf("Cut(%d)", n)
				answers(t, what, x.Cut(n), m.cut(n))
			case 4, 5:
				bits := byte(dice.below(256))
				what = fmt.Sprintf("Crash(%d, %d)", n, bits)
				gone(t, what, x.Crash(n, bits), m.crash(n, bits))
			default:
				b := dice.bytes(dice.below(6))
				what = fmt.Sprintf("Append(%q)", b)
				answers(t, what, x.Append(b), m.append(string(b)))
			}
			safe, loose := m.parts(t)
			has(t, what, x, safe, loose)
			if t.Failed() {
				t.FailNow()
			}
		}
	}
}

// The same calls have the same answers on two tapes, though the spare capacity of what they are given differs.
func TestSameCallsSameAnswers(t *testing.T) {
	dice := dice(14)
	for range 200 {
		one, two := New(20), New(20)
		for range 40 {
			switch n := dice.below(24) - 2; dice.below(6) {
			case 0:
				answers(t, "Sync", two.Sync(), one.Sync())
			case 1:
				gone(t, "Back", two.Back(), one.Back())
			case 2:
				answers(t, "Cut", two.Cut(n), one.Cut(n))
			case 3:
				gone(t, "Crash", two.Crash(n, byte(n)), one.Crash(n, byte(n)))
			default:
				b := dice.bytes(dice.below(9))
				answers(t, "Append", two.Append(append(make([]byte, 0, 30), b...)), one.Append(slices.Clip(b)))
			}
			_, safe := one.Len()
			all := string(one.Read())
			has(t, "the other one", two, all[:safe], all[safe:])
		}
	}
}

// Memory

func TestAppendKeepsNothingOfItsArgument(t *testing.T) {
	whole := []byte("abcdefgh")
	b := whole[2:5]
	x := New(20)
	answers(t, "Append to none", x.Append(b), api.OK)
	copy(whole, "XXXXXXXX")
	has(t, "loose", x, "", "cde")
	answers(t, "Append", x.Append(b), api.OK)
	copy(whole, "YYYYYYYY")
	has(t, "loose", x, "", "cdeXXX")
	answers(t, "Sync", x.Sync(), api.OK)
	copy(whole, "ZZZZZZZZ")
	has(t, "safe", x, "cdeXXX", "")
	answers(t, "Cut", x.Cut(0), api.OK)
	answers(t, "Append to none", x.Append(b), api.OK)
	copy(whole, "........")
	gone(t, "Crash", x.Crash(2, 1), 1)
	copy(whole, "!!!!!!!!")
	has(t, "Crash", x, "Z[", "")
}

func TestNoCallChangesWhatWasAppended(t *testing.T) {
	whole := []byte("abcdefgh")
	b := whole[2:5]
	x := New(8)
	for i, call := range []func(){
		func() { x.Append(b) },
		func() { x.Append([]byte("XY")) },
		func() { x.Append(whole) },
		func() { x.Crash(2, 255) },
		func() { x.Append(b) },
		func() { x.Crash(3, 255) },
		func() { x.Cut(0) },
		func() { x.Append(b) },
		func() { x.Crash(3, 255) },
		func() { x.Append([]byte("XY")) },
		func() { x.Sync() },
		func() { x.Cut(1) },
		func() { x.Append(b) },
		func() { x.Back() },
		func() { x.Append([]byte("ABCDEF")) },
		func() { x.Cut(0) },
		func() { x.Append(whole) },
		func() { x.Crash(8, 255) },
	} {
		call()
		if string(whole) != "abcdefgh" {
			t.Fatalf("behind call %d it is %q", i, whole)
		}
	}
}

// The first Append to a tape takes over no memory either, of whatever size and spare capacity the argument is.
func TestSpareCapacityStays(t *testing.T) {
	for n := range 20 {
		for spare := range 20 {
			whole := bytes.Repeat([]byte("s"), n+spare)
			x := New(50)
			answers(t, "Append", x.Append(whole[:n]), api.OK)
			answers(t, "Append", x.Append([]byte("0123456789")), api.OK)
			gone(t, "Crash", x.Crash(n, 255), 10)
			answers(t, "Append", x.Append([]byte("0123456789")), api.OK)
			gone(t, "Crash", x.Crash(10, 255), 0)
			if !bytes.Equal(whole, bytes.Repeat([]byte("s"), n+spare)) {
				t.Errorf("%d bytes and %d spare ones: now %q", n, spare, whole)
			}
		}
	}
}

func TestSpareCapacityDoesNotCount(t *testing.T) {
	x := New(3)
	answers(t, "more bytes than fit", x.Append(make([]byte, 4, 4)), api.ErrFull)
	answers(t, "much spare capacity", x.Append(append(make([]byte, 0, 100), "ab"...)), api.OK)
	has(t, "much spare capacity", x, "", "ab")
	answers(t, "a piece", x.Append([]byte("cdefgh")[:1]), api.OK)
	has(t, "a piece", x, "", "abc")
}

// What a tape is given may be what it, or another one, returned.
func TestAppendOfWhatWasRead(t *testing.T) {
	x := with(t, "ab", "c")
	answers(t, "Append", x.Append(x.Read()), api.OK)
	has(t, "Append", x, "ab", "cabc")
	b := x.Read()
	y := New(most)
	answers(t, "Append", y.Append(b), api.OK)
	gone(t, "Crash", y.Crash(6, 255), 0)
	gone(t, "Crash", x.Crash(1, 1), 3)
	if string(b) != "abcabc" {
		t.Errorf("what was read is %q now", b)
	}
	has(t, "the one", x, "abb", "")
	has(t, "the other one", y, "abcab\x9c", "")
}

// scribble writes over a slice and its spare capacity.
func scribble(b []byte) {
	b = b[:cap(b)]
	for i := range b {
		b[i] = '!'
	}
}

func TestWhatIsReadIsApart(t *testing.T) {
	x := New(most)
	for _, c := range []struct {
		call        func()
		safe, loose string
	}{
		{func() {}, "", ""},
		{func() { x.Append([]byte("abcd")) }, "", "abcd"},
		{func() { x.Crash(2, 1) }, "ac", ""},
		{func() { x.Append([]byte("efgh")) }, "ac", "efgh"},
		{func() { x.Sync() }, "acefgh", ""},
		{func() { x.Append([]byte("ij")) }, "acefgh", "ij"},
		{func() { x.Back() }, "acefgh", ""},
		{func() { x.Cut(3) }, "ace", ""},
		{func() { x.Append([]byte("k")) }, "ace", "k"},
		{func() { x.Cut(0) }, "", ""},
		{func() { x.Append([]byte("l")) }, "", "l"},
	} {
		c.call()
		one, two := x.Read(), x.Read()
		scribble(one)
		if string(two) != c.safe+c.loose {
			t.Errorf("what was read before is %q, want %q", two, c.safe+c.loose)
		}
		scribble(two)
		scribble(append(x.Read(), "more"...))
		has(t, "scribbled over", x, c.safe, c.loose)
	}
}

// What was read once is not what the tape fills later, nor is its spare capacity, also where nothing was read.
func TestWhatWasReadIsApartLater(t *testing.T) {
	x := New(most)
	var old [][]byte
	for _, c := range []struct {
		call        func()
		safe, loose string
	}{
		{func() {}, "", ""},
		{func() { x.Append([]byte("abcd")) }, "", "abcd"},
		{func() { x.Back() }, "", ""},
		{func() { x.Append([]byte("efgh")) }, "", "efgh"},
		{func() { x.Sync() }, "efgh", ""},
		{func() { x.Cut(1) }, "e", ""},
		{func() { x.Append([]byte("ijk")) }, "e", "ijk"},
		{func() { x.Crash(1, 1) }, "eh", ""},
		{func() { x.Append([]byte("lm")) }, "eh", "lm"},
		{func() { x.Cut(0) }, "", ""},
		{func() { x.Append([]byte("n")) }, "", "n"},
	} {
		c.call()
		for _, b := range old {
			scribble(b)
		}
		has(t, "what was read before is scribbled over", x, c.safe, c.loose)
		old = append(old, x.Read())
	}
}

func TestWhatWasReadStays(t *testing.T) {
	x := with(t, "abcd", "efgh")
	was := x.Read()
	for i, call := range []func(){
		func() { x.Append([]byte("ij")) },
		func() { x.Crash(4, 255) },
		func() { x.Sync() },
		func() { x.Cut(2) },
		func() { x.Append([]byte("XXXX")) },
		func() { x.Crash(3, 255) },
		func() { x.Append([]byte("YY")) },
		func() { x.Back() },
		func() { x.Cut(0) },
		func() { x.Append([]byte("0123456789")) },
	} {
		call()
		if string(was) != "abcdefgh" {
			t.Fatalf("behind call %d what was read is %q", i, was)
		}
	}
}

func TestTapesAreApart(t *testing.T) {
	b := []byte("abcdef")
	one, two := New(most), New(most)
	answers(t, "Append", one.Append(b), api.OK)
	answers(t, "Append", two.Append(b), api.OK)
	gone(t, "Crash", one.Crash(3, 255), 3)
	answers(t, "Append", one.Append([]byte("xyz")), api.OK)
	has(t, "the one", one, "ab\x9c", "xyz")
	has(t, "the other one", two, "", "abcdef")
	answers(t, "Sync", two.Sync(), api.OK)
	answers(t, "Cut", two.Cut(1), api.OK)
	has(t, "the one", one, "ab\x9c", "xyz")
	has(t, "the other one", two, "a", "")
}
