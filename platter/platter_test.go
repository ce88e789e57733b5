package platter

import (
	"bytes"
	"fmt"
	"math"
	"slices"
	"testing"

	"coldframe/api"
)

// dice makes numbers that look as if they were random; the seed tells which.
type dice uint64

// below returns a number from 0 to n - 1.
func (d *dice) below(n int) int {
	*d = *d*6364136223846793005 + 1442695040888963407
	return int(*d>>33) % n
}

// bytes makes n bytes.
func (d *dice) bytes(n int) []byte {
	b := make([]byte, n)
	for i := range b {
		b[i] = byte(d.below(256))
	}
	return b
}

// disk makes a disk.
func disk(t *testing.T, cells, size int) *Disk {
	t.Helper()
	d, e := New(cells, size)
	if e != api.OK || d == nil {
		t.Fatalf("New(%d, %d): %v, error %d", cells, size, d, e)
	}
	return d
}

// safe makes a disk that has these cells, of at most size bytes, without loose writes. It has synced once.
func safe(t *testing.T, size int, cells ...string) *Disk {
	t.Helper()
	d := disk(t, len(cells), size)
	for i, c := range cells {
		answers(t, "Write", d.Write(i, []byte(c)), api.OK)
	}
	answers(t, "Sync", d.Sync(), api.OK)
	return d
}

// writes makes loose writes, of a cell and a text in turn.
func writes(t *testing.T, d *Disk, l ...any) {
	t.Helper()
	for i := 0; i < len(l); i += 2 {
		answers(t, "Write", d.Write(l[i].(int), []byte(l[i+1].(string))), api.OK)
	}
}

// answers checks an error.
func answers(t *testing.T, what string, e, want api.Errno) {
	t.Helper()
	if e != want {
		t.Errorf("%s: error %d, want %d", what, e, want)
	}
}

// reads checks what is read of all cells.
func reads(t *testing.T, what string, d *Disk, want ...string) {
	t.Helper()
	for i, w := range want {
		if got := string(d.Read(i)); got != w {
			t.Errorf("%s: cell %d reads %q, want %q", what, i, got, w)
		}
	}
	if n, _ := d.Len(); n != len(want) {
		t.Errorf("%s: %d cells, want %d", what, n, len(want))
	}
}

// has checks what the cells have without the loose writes, which are lost by this.
func has(t *testing.T, what string, d *Disk, want ...string) {
	t.Helper()
	d.Crash(0, 0)
	reads(t, what+", then", d, want...)
}

// loose checks how many writes are loose, and how many Syncs there were.
func loose(t *testing.T, what string, d *Disk, writes, syncs int) {
	t.Helper()
	if w, s := d.Loose(); w != writes || s != syncs {
		t.Errorf("%s: %d loose writes, %d Syncs; want %d, %d", what, w, s, writes, syncs)
	}
}

// lost checks how many writes a crash did not do.
func lost(t *testing.T, what string, got, want int) {
	t.Helper()
	if got != want {
		t.Errorf("%s: %d writes were not done, want %d", what, got, want)
	}
}

// model is a disk, the slow way: it keeps the bytes of each cell as a text, and each loose write as a cell and a text.
type model struct {
	size  int
	cells []string
	order []int
	texts []string
	syncs int
}

func (m *model) read(cell int) string {
	if cell < 0 || cell >= len(m.cells) {
		return ""
	}
	got := m.cells[cell]
	for i, c := range m.order {
		if c == cell {
			got = m.texts[i]
		}
	}
	return got
}

func (m *model) write(cell int, b string) api.Errno {
	switch {
	case cell < 0 || cell >= len(m.cells):
		return api.ErrArg
	case len(b) > m.size:
		return api.ErrLong
	}
	m.order, m.texts = append(m.order, cell), append(m.texts, b)
	return api.OK
}

func (m *model) sync() api.Errno {
	m.crash(len(m.order), 0)
	m.syncs++
	return api.OK
}

// crash goes byte by byte through the write that is done in part.
func (m *model) crash(keep, n int) int {
	undone := 0
	for i, c := range m.order {
		switch {
		case i < keep:
			m.cells[c] = m.texts[i]
			continue
		case i == keep || keep < 0 && i == 0:
			var b []byte
			for at := 0; at < len(m.texts[i]) || at < len(m.cells[c]); at++ {
				switch {
				case at < n && at < len(m.texts[i]):
					b = append(b, m.texts[i][at])
				case at < len(m.cells[c]):
					b = append(b, m.cells[c][at])
				}
			}
			m.cells[c] = string(b)
		}
		undone++
	}
	m.order, m.texts = nil, nil
	return undone
}

func (m *model) spoil(cell, at int, bits byte) api.Errno {
	if cell < 0 || cell >= len(m.cells) || at < 0 || at >= len(m.cells[cell]) {
		return api.ErrArg
	}
	b := []byte(m.cells[cell])
	b[at] ^= bits
	m.cells[cell] = string(b)
	return api.OK
}

func (m *model) wipe(cell int) api.Errno {
	if cell < 0 || cell >= len(m.cells) {
		return api.ErrArg
	}
	m.cells[cell] = ""
	return api.OK
}

// P11.1

func TestConstants(t *testing.T) {
	if MostCells != 1024 || MostSize != 4096 {
		t.Error(MostCells, MostSize)
	}
}

func TestNew(t *testing.T) {
	for _, cells := range []int{math.MinInt, -1, 0, 1, 2, 1023, 1024, 1025, 4096, 1 << 32, 1<<32 + 1, math.MaxInt} {
		for _, size := range []int{math.MinInt, -1, 0, 1, 2, 4095, 4096, 4097, 1 << 32, 1<<32 + 1, math.MaxInt} {
			what := fmt.Sprintf("New(%d, %d)", cells, size)
			d, e := New(cells, size)
			if cells < 1 || cells > 1024 || size < 1 || size > 4096 {
				answers(t, what, e, api.ErrArg)
				if d != nil {
					t.Errorf("%s: a disk beside an error", what)
				}
				continue
			}
			answers(t, what, e, api.OK)
			if c, s := d.Len(); c != cells || s != size {
				t.Errorf("%s: Len is %d, %d", what, c, s)
			}
			loose(t, what, d, 0, 0)
			reads(t, what, d, make([]string, cells)...)
		}
	}
}

func TestEachCellTakesSizeBytes(t *testing.T) {
	for _, c := range []struct{ cells, size int }{{1, 1}, {1, 4096}, {1024, 1}, {1024, 4096}, {3, 7}} {
		d := disk(t, c.cells, c.size)
		for i := range c.cells {
			b := bytes.Repeat([]byte{byte(i + 1)}, c.size)
			answers(t, "Write", d.Write(i, b), api.OK)
		}
		for range 2 {
			for i := range c.cells {
				if b := d.Read(i); len(b) != c.size || b[0] != byte(i+1) || b[c.size-1] != byte(i+1) {
					t.Errorf("cell %d of %d, of %d bytes: %d bytes", i, c.cells, c.size, len(b))
				}
			}
			d.Sync()
		}
	}
}

func TestLenStays(t *testing.T) {
	d := disk(t, 3, 5)
	stays := func(what string) {
		t.Helper()
		if c, s := d.Len(); c != 3 || s != 5 {
			t.Errorf("%s: Len is %d, %d", what, c, s)
		}
	}
	stays("New")
	writes(t, d, 0, "abc", 2, "defgh", 2, "")
	stays("Write")
	d.Write(3, nil)
	d.Write(0, []byte("toolong"))
	stays("Write with an error")
	d.Sync()
	stays("Sync")
	writes(t, d, 1, "x")
	d.Crash(0, 1)
	stays("Crash")
	d.Spoil(0, 0, 1)
	stays("Spoil")
	d.Wipe(0)
	stays("Wipe")
}

func TestLooseBehindEveryCall(t *testing.T) {
	d := disk(t, 3, 5)
	for _, c := range []struct {
		what          string
		call          func()
		writes, syncs int
	}{
		{"nothing", func() {}, 0, 0},
		{"Len", func() { d.Len() }, 0, 0},
		{"Read", func() { d.Read(0); d.Read(-1); d.Read(3) }, 0, 0},
		{"Loose", func() { d.Loose() }, 0, 0},
		{"Write", func() { d.Write(0, []byte("abc")) }, 1, 0},
		{"Write of nothing", func() { d.Write(0, nil) }, 2, 0},
		{"Write of what is there", func() { d.Write(0, nil) }, 3, 0},
		{"Write to another cell", func() { d.Write(2, []byte("abcde")) }, 4, 0},
		{"Write to no cell", func() { d.Write(3, nil) }, 4, 0},
		{"Write of too many bytes", func() { d.Write(2, []byte("abcdef")) }, 4, 0},
		{"Read of loose writes", func() { d.Read(0); d.Read(2) }, 4, 0},
		{"Spoil with an error", func() { d.Spoil(0, 0, 1) }, 4, 0},
		{"Wipe", func() { d.Wipe(0) }, 4, 0},
		{"Wipe with an error", func() { d.Wipe(-1) }, 4, 0},
		{"Sync", func() { d.Sync() }, 0, 1},
		{"Sync without loose writes", func() { d.Sync() }, 0, 2},
		{"Spoil", func() { d.Spoil(2, 0, 1) }, 0, 2},
		{"Wipe without loose writes", func() { d.Wipe(2) }, 0, 2},
		{"Write again", func() { d.Write(1, []byte("x")) }, 1, 2},
		{"Crash of one", func() { d.Crash(0, 0) }, 0, 2},
		{"Crash without loose writes", func() { d.Crash(0, 0) }, 0, 2},
		{"two Writes", func() { d.Write(1, nil); d.Write(1, nil) }, 2, 2},
		{"Crash that keeps one", func() { d.Crash(1, 0) }, 0, 2},
		{"a Write", func() { d.Write(1, nil) }, 1, 2},
		{"Crash that keeps all", func() { d.Crash(1, 0) }, 0, 2},
		{"a last Write", func() { d.Write(1, nil) }, 1, 2},
		{"a last Sync", func() { d.Sync() }, 0, 3},
	} {
		c.call()
		loose(t, c.what, d, c.writes, c.syncs)
	}
}

func TestLooseOfMany(t *testing.T) {
	d := disk(t, 2, 1)
	for i := range 3000 {
		loose(t, "Write", d, i, 0)
		writes(t, d, i%2, "x")
	}
	for i := range 1000 {
		answers(t, "Sync", d.Sync(), api.OK)
		loose(t, "Sync", d, 0, i+1)
	}
}

func TestRead(t *testing.T) {
	d := safe(t, 5, "zero", "one", "two", "three", "")
	writes(t, d, 1, "ONE", 2, "first", 0, "", 2, "2nd", 3, "THREE", 2, "last")
	reads(t, "with loose writes", d, "", "ONE", "last", "THREE", "")
	writes(t, d, 2, "")
	reads(t, "emptied", d, "", "ONE", "", "THREE", "")
	writes(t, d, 2, "more", 4, "four")
	reads(t, "written again", d, "", "ONE", "more", "THREE", "four")
	loose(t, "Read", d, 9, 1)
	has(t, "lost", d, "zero", "one", "two", "three", "")
}

func TestReadOfAnEmptyCell(t *testing.T) {
	d := disk(t, 2, 4)
	reads(t, "never written", d, "", "")
	answers(t, "Write of nil", d.Write(0, nil), api.OK)
	answers(t, "Write of no bytes", d.Write(1, []byte{}), api.OK)
	reads(t, "loose", d, "", "")
	d.Sync()
	reads(t, "synced", d, "", "")
}

func TestReadOfNoCell(t *testing.T) {
	d := safe(t, 4, "abcd", "efgh")
	for range 2 {
		for _, cell := range []int{math.MinInt, -2, -1, 2, 3, 1024, 1 << 32, math.MaxInt} {
			if b := d.Read(cell); len(b) != 0 {
				t.Errorf("cell %d reads %q", cell, b)
			}
		}
		writes(t, d, 0, "ijkl", 1, "mnop")
	}
}

// P11.2

func TestWrite(t *testing.T) {
	d := safe(t, 3, "abc", "def")
	for _, c := range []struct {
		cell int
		b    string
		want api.Errno
	}{
		{0, "", api.OK},
		{0, "x", api.OK},
		{1, "xy", api.OK},
		{1, "xyz", api.OK},
		{0, "wxyz", api.ErrLong},
		{1, "a great many bytes", api.ErrLong},
		{-1, "", api.ErrArg},
		{2, "", api.ErrArg},
		{-1, "xyz", api.ErrArg},
		{2, "xyz", api.ErrArg},
		{-1, "wxyz", api.ErrArg},
		{2, "wxyz", api.ErrArg},
		{math.MinInt, "x", api.ErrArg},
		{math.MaxInt, "x", api.ErrArg},
		{1 << 32, "x", api.ErrArg},
		{math.MaxInt, "wxyz", api.ErrArg},
	} {
		before := [2]string{string(d.Read(0)), string(d.Read(1))}
		n, _ := d.Loose()
		what := fmt.Sprintf("Write(%d, %q)", c.cell, c.b)
		answers(t, what, d.Write(c.cell, []byte(c.b)), c.want)
		if c.want == api.OK {
			before[c.cell] = c.b
			n++
		}
		reads(t, what, d, before[:]...)
		loose(t, what, d, n, 1)
	}
	has(t, "what the cells have", d, "abc", "def")
}

func TestWriteUpToMostSize(t *testing.T) {
	for _, size := range []int{1, 2, 255, 256, 257, 4095, 4096} {
		d := disk(t, 1, size)
		full := bytes.Repeat([]byte("x"), size)
		answers(t, "one more", d.Write(0, append(full, 'x')), api.ErrLong)
		loose(t, "one more", d, 0, 0)
		answers(t, "full", d.Write(0, full), api.OK)
		loose(t, "full", d, 1, 0)
		reads(t, "full", d, string(full))
	}
}

func TestSync(t *testing.T) {
	d := safe(t, 6, "zero", "one", "two", "three")
	writes(t, d, 1, "first", 3, "", 1, "second", 0, "zero!", 1, "x")
	answers(t, "Sync", d.Sync(), api.OK)
	loose(t, "Sync", d, 0, 2)
	reads(t, "Sync", d, "zero!", "x", "two", "")
	has(t, "Sync", d, "zero!", "x", "two", "")
}

func TestSyncWithoutLooseWrites(t *testing.T) {
	d := disk(t, 2, 3)
	for i := range 3 {
		answers(t, "empty", d.Sync(), api.OK)
		loose(t, "empty", d, 0, i+1)
		reads(t, "empty", d, "", "")
	}
	d = safe(t, 3, "abc", "d")
	answers(t, "written", d.Sync(), api.OK)
	loose(t, "written", d, 0, 2)
	has(t, "written", d, "abc", "d")
}

// A shorter write leaves nothing of a longer one, unless it is torn.
func TestSyncOfAShorterWrite(t *testing.T) {
	d := safe(t, 6, "longer")
	for _, b := range []string{"short", "s", "", "longer", "abc"} {
		writes(t, d, 0, b)
		reads(t, "loose", d, b)
		d.Sync()
		reads(t, "synced", d, b)
	}
}

func TestWritesBehindASyncAreLoose(t *testing.T) {
	d := safe(t, 6, "first", "")
	writes(t, d, 0, "second", 1, "x")
	d.Sync()
	writes(t, d, 0, "third")
	loose(t, "Write", d, 1, 2)
	reads(t, "Write", d, "third", "x")
	lost(t, "Crash", d.Crash(0, 0), 1)
	reads(t, "Crash", d, "second", "x")
}

// P11.3

func TestChapterExample(t *testing.T) {
	d := disk(t, 1, 3)
	writes(t, d, 0, "abc")
	lost(t, "Crash", d.Crash(0, 2), 1)
	reads(t, "Crash", d, "ab")
}

func TestCrashKeeps(t *testing.T) {
	none := []string{"", "", ""}
	one := []string{"one", "", ""}
	two := []string{"one", "two", ""}
	three := []string{"more", "two", ""}
	four := []string{"more", "two", "four"}
	for _, c := range []struct {
		keep, undone int
		want         []string
	}{
		{math.MinInt, 4, none},
		{-1, 4, none},
		{0, 4, none},
		{1, 3, one},
		{2, 2, two},
		{3, 1, three},
		{4, 0, four},
		{5, 0, four},
		{1 << 32, 0, four},
		{math.MaxInt, 0, four},
	} {
		d := disk(t, 3, 4)
		writes(t, d, 0, "one", 1, "two", 0, "more", 2, "four")
		what := fmt.Sprintf("Crash(%d, 0)", c.keep)
		lost(t, what, d.Crash(c.keep, 0), c.undone)
		loose(t, what, d, 0, 0)
		reads(t, what, d, c.want...)
		has(t, what, d, c.want...)
	}
}

func TestCrashTears(t *testing.T) {
	for _, c := range []struct {
		had, b string
		bytes  int
		want   string
	}{
		{"", "abc", math.MinInt, ""},
		{"", "abc", -1, ""},
		{"", "abc", 0, ""},
		{"", "abc", 1, "a"},
		{"", "abc", 2, "ab"},
		{"", "abc", 3, "abc"},
		{"", "abc", 4, "abc"},
		{"", "abc", math.MaxInt, "abc"},
		{"x", "abc", math.MinInt, "x"},
		{"x", "abc", -1, "x"},
		{"x", "abc", 0, "x"},
		{"x", "abc", 1, "a"},
		{"x", "abc", 2, "ab"},
		{"x", "abc", 3, "abc"},
		{"x", "abc", 4, "abc"},
		{"wxyz", "abcd", -1, "wxyz"},
		{"wxyz", "abcd", 0, "wxyz"},
		{"wxyz", "abcd", 1, "axyz"},
		{"wxyz", "abcd", 2, "abyz"},
		{"wxyz", "abcd", 3, "abcz"},
		{"wxyz", "abcd", 4, "abcd"},
		{"wxyz", "abcd", 5, "abcd"},
		{"vwxyz", "ab", math.MinInt, "vwxyz"},
		{"vwxyz", "ab", -1, "vwxyz"},
		{"vwxyz", "ab", 0, "vwxyz"},
		{"vwxyz", "ab", 1, "awxyz"},
		{"vwxyz", "ab", 2, "abxyz"},
		{"vwxyz", "ab", 3, "abxyz"},
		{"vwxyz", "ab", 4, "abxyz"},
		{"vwxyz", "ab", 5, "abxyz"},
		{"vwxyz", "ab", 6, "abxyz"},
		{"vwxyz", "ab", math.MaxInt, "abxyz"},
		{"vwxyz", "", -1, "vwxyz"},
		{"vwxyz", "", 0, "vwxyz"},
		{"vwxyz", "", 1, "vwxyz"},
		{"vwxyz", "", math.MaxInt, "vwxyz"},
		{"", "", 0, ""},
		{"", "", 1, ""},
	} {
		what := fmt.Sprintf("%q over %q, Crash(0, %d)", c.b, c.had, c.bytes)
		d := safe(t, 6, "before", c.had, "behind")
		writes(t, d, 1, c.b)
		lost(t, what, d.Crash(0, c.bytes), 1)
		loose(t, what, d, 0, 1)
		reads(t, what, d, "before", c.want, "behind")
		has(t, what, d, "before", c.want, "behind")
	}
}

func TestCrashTearsTheNextOneOnly(t *testing.T) {
	for _, c := range []struct {
		keep, undone int
		want         []string
	}{
		{math.MinInt, 4, []string{"11aa", "bbb", "cc"}},
		{-1, 4, []string{"11aa", "bbb", "cc"}},
		{0, 4, []string{"11aa", "bbb", "cc"}},
		{1, 3, []string{"11111", "2bb", "cc"}},
		{2, 2, []string{"11111", "2", "33"}},
		{3, 1, []string{"44111", "2", "333"}},
		{4, 0, []string{"4444", "2", "333"}},
		{5, 0, []string{"4444", "2", "333"}},
		{math.MaxInt, 0, []string{"4444", "2", "333"}},
	} {
		d := safe(t, 6, "aaaa", "bbb", "cc")
		writes(t, d, 0, "11111", 1, "2", 2, "333", 0, "4444")
		what := fmt.Sprintf("Crash(%d, 2)", c.keep)
		lost(t, what, d.Crash(c.keep, 2), c.undone)
		reads(t, what, d, c.want...)
		has(t, what, d, c.want...)
	}
}

func TestCrashOfSeveralWritesToOneCell(t *testing.T) {
	for _, c := range []struct {
		keep, bytes, undone int
		want                string
	}{
		{0, 0, 4, "old"},
		{0, 1, 4, "Fld"},
		{0, 5, 4, "FIRST"},
		{0, 6, 4, "FIRST"},
		{1, -1, 3, "FIRST"},
		{1, 0, 3, "FIRST"},
		{1, 1, 3, "2IRST"},
		{1, 3, 3, "2ndST"},
		{1, 4, 3, "2ndST"},
		{2, 0, 2, "2nd"},
		{2, 1, 2, "2nd"},
		{3, 0, 1, ""},
		{3, 2, 1, "la"},
		{3, 4, 1, "last"},
		{3, 5, 1, "last"},
		{4, 0, 0, "last"},
		{4, 2, 0, "last"},
		{9, 9, 0, "last"},
	} {
		d := safe(t, 5, "old", "other")
		writes(t, d, 0, "FIRST", 0, "2nd", 0, "", 0, "last")
		what := fmt.Sprintf("Crash(%d, %d)", c.keep, c.bytes)
		lost(t, what, d.Crash(c.keep, c.bytes), c.undone)
		reads(t, what, d, c.want, "other")
		has(t, what, d, c.want, "other")
	}
}

// A write that is done with all its bytes, but over what the cell had, was not done all the same.
func TestCrashThatTearsNothingOff(t *testing.T) {
	d := safe(t, 4, "abc")
	writes(t, d, 0, "wxyz")
	lost(t, "Crash", d.Crash(0, 4), 1)
	reads(t, "Crash", d, "wxyz")
	writes(t, d, 0, "")
	lost(t, "Crash", d.Crash(0, 4), 1)
	reads(t, "Crash", d, "wxyz")
}

func TestCrashWithoutLooseWrites(t *testing.T) {
	for _, n := range []int{math.MinInt, -1, 0, 1, 2, math.MaxInt} {
		for _, m := range []int{math.MinInt, -1, 0, 1, 2, math.MaxInt} {
			what := fmt.Sprintf("Crash(%d, %d)", n, m)
			d := disk(t, 2, 3)
			lost(t, what, d.Crash(n, m), 0)
			reads(t, what, d, "", "")
			d = safe(t, 3, "abc", "d")
			lost(t, what, d.Crash(n, m), 0)
			reads(t, what, d, "abc", "d")
			loose(t, what, d, 0, 1)
		}
	}
}

func TestWhatACrashLostStaysLost(t *testing.T) {
	d := safe(t, 5, "abc", "def")
	writes(t, d, 0, "first", 1, "2nd", 0, "third")
	lost(t, "Crash", d.Crash(1, 1), 2)
	lost(t, "Crash again", d.Crash(3, 3), 0)
	reads(t, "Crash again", d, "first", "2ef")
	answers(t, "Sync", d.Sync(), api.OK)
	reads(t, "Sync", d, "first", "2ef")
	loose(t, "Sync", d, 0, 2)
	writes(t, d, 1, "more")
	reads(t, "Write", d, "first", "more")
	lost(t, "a last Crash", d.Crash(0, 2), 1)
	reads(t, "a last Crash", d, "first", "mof")
}

func TestCrashOfGreatCells(t *testing.T) {
	dice := dice(1)
	for _, n := range []int{-1, 0, 1, 255, 256, 257, 2047, 2048, 4095, 4096, 4097} {
		had, b := dice.bytes(4096), dice.bytes(2048)
		d := safe(t, 4096, string(had))
		writes(t, d, 0, string(b))
		d.Crash(0, n)
		m := min(max(n, 0), 2048)
		if got, want := d.Read(0), slices.Concat(b[:m], had[m:]); !bytes.Equal(got, want) {
			t.Errorf("Crash(0, %d): other bytes, or another number: %d", n, len(got))
		}
	}
}

// P11.4

func TestSpoil(t *testing.T) {
	for _, c := range []struct {
		cell, at int
		bits     byte
		want     api.Errno
		read     string
	}{
		{0, 0, 0, api.OK, "abc"},
		{0, 0, 1, api.OK, "`bc"},
		{0, 0, 0x80, api.OK, "\xe1bc"},
		{0, 0, 255, api.OK, "\x9ebc"},
		{0, 1, 0, api.OK, "abc"},
		{0, 1, 1, api.OK, "acc"},
		{0, 2, 0, api.OK, "abc"},
		{0, 2, 1, api.OK, "abb"},
		{0, 2, 255, api.OK, "ab\x9c"},
		{0, 3, 0, api.ErrArg, "abc"},
		{0, 3, 1, api.ErrArg, "abc"},
		{0, 4, 255, api.ErrArg, "abc"},
		{0, -1, 0, api.ErrArg, "abc"},
		{0, -1, 1, api.ErrArg, "abc"},
		{0, math.MinInt, 1, api.ErrArg, "abc"},
		{0, math.MaxInt, 1, api.ErrArg, "abc"},
		{0, 1 << 32, 1, api.ErrArg, "abc"},
		{1, 0, 0, api.ErrArg, "abc"},
		{1, 0, 1, api.ErrArg, "abc"},
		{1, -1, 1, api.ErrArg, "abc"},
		{1, 1, 255, api.ErrArg, "abc"},
		{2, 0, 1, api.ErrArg, "abc"},
		{2, 0, 0, api.ErrArg, "abc"},
		{3, 0, 1, api.ErrArg, "abc"},
		{-1, 0, 1, api.ErrArg, "abc"},
		{-1, 0, 0, api.ErrArg, "abc"},
		{-1, -1, 1, api.ErrArg, "abc"},
		{math.MinInt, 0, 1, api.ErrArg, "abc"},
		{math.MaxInt, 0, 1, api.ErrArg, "abc"},
	} {
		d := safe(t, 4, "abc", "")
		what := fmt.Sprintf("Spoil(%d, %d, %d)", c.cell, c.at, c.bits)
		answers(t, what, d.Spoil(c.cell, c.at, c.bits), c.want)
		reads(t, what, d, c.read, "")
		loose(t, what, d, 0, 1)
		has(t, what, d, c.read, "")
		answers(t, what+", again", d.Spoil(c.cell, c.at, c.bits), c.want)
		reads(t, what+", again", d, "abc", "")
	}
}

func TestSpoilWithEachOfAllBits(t *testing.T) {
	for bits := range 256 {
		for b := range 256 {
			d := safe(t, 3, "x"+string([]byte{byte(b)})+"y")
			answers(t, "Spoil", d.Spoil(0, 1, byte(bits)), api.OK)
			reads(t, fmt.Sprintf("%d spoilt by %d", b, bits), d, "x"+string([]byte{byte(b ^ bits)})+"y")
		}
	}
}

func TestSpoilOfACellThatWasNeverWritten(t *testing.T) {
	d := disk(t, 1, 4)
	answers(t, "never written", d.Spoil(0, 0, 1), api.ErrArg)
	writes(t, d, 0, "abcd")
	answers(t, "loose", d.Spoil(0, 0, 1), api.ErrArg)
	reads(t, "loose", d, "abcd")
	d.Sync()
	answers(t, "synced", d.Spoil(0, 3, 1), api.OK)
	reads(t, "synced", d, "abce")
}

func TestSpoilBelowLooseWrites(t *testing.T) {
	d := safe(t, 5, "abc", "def", "ghi")
	writes(t, d, 0, "first", 0, "2nd", 1, "")
	answers(t, "the longer one is loose", d.Spoil(0, 3, 1), api.ErrArg)
	answers(t, "the shorter one is loose", d.Spoil(1, 2, 1), api.OK)
	answers(t, "both have it", d.Spoil(0, 0, 1), api.OK)
	answers(t, "another cell", d.Spoil(2, 0, 1), api.OK)
	reads(t, "Spoil", d, "2nd", "", "fhi")
	loose(t, "Spoil", d, 3, 1)
	has(t, "Spoil", d, "`bc", "deg", "fhi")
}

func TestSpoilIsWrittenOver(t *testing.T) {
	d := safe(t, 5, "abc", "def")
	writes(t, d, 0, "xyz")
	answers(t, "Spoil", d.Spoil(0, 1, 255), api.OK)
	answers(t, "Spoil", d.Spoil(1, 1, 1), api.OK)
	d.Sync()
	reads(t, "Sync", d, "xyz", "ddf")
}

func TestSpoilOfWhatACrashTore(t *testing.T) {
	d := safe(t, 5, "abcde")
	writes(t, d, 0, "XYZ")
	answers(t, "Spoil", d.Spoil(0, 0, 1), api.OK)
	answers(t, "Spoil", d.Spoil(0, 4, 1), api.OK)
	d.Crash(0, 2)
	reads(t, "Crash", d, "XYcdd")
	answers(t, "Spoil", d.Spoil(0, 0, 1), api.OK)
	answers(t, "Spoil", d.Spoil(0, 2, 1), api.OK)
	answers(t, "one behind", d.Spoil(0, 5, 1), api.ErrArg)
	reads(t, "Spoil", d, "YYbdd")
}

func TestWipe(t *testing.T) {
	d := safe(t, 3, "abc", "", "def")
	for _, cell := range []int{math.MinInt, -1, 3, 4, 1 << 32, math.MaxInt} {
		what := fmt.Sprintf("Wipe(%d)", cell)
		answers(t, what, d.Wipe(cell), api.ErrArg)
		reads(t, what, d, "abc", "", "def")
	}
	for i, want := range [][]string{{"", "", "def"}, {"", "", "def"}, {"", "", ""}} {
		for range 2 {
			what := fmt.Sprintf("Wipe(%d)", i)
			answers(t, what, d.Wipe(i), api.OK)
			reads(t, what, d, want...)
			loose(t, what, d, 0, 1)
			answers(t, "Spoil", d.Spoil(i, 0, 1), api.ErrArg)
		}
	}
	has(t, "Wipe", d, "", "", "")
	writes(t, d, 0, "new")
	d.Sync()
	reads(t, "Sync", d, "new", "", "")
}

func TestWipeBelowLooseWrites(t *testing.T) {
	d := safe(t, 5, "abcde", "fghij")
	writes(t, d, 0, "xyz", 0, "yz", 1, "")
	answers(t, "Wipe", d.Wipe(0), api.OK)
	reads(t, "Wipe", d, "yz", "")
	loose(t, "Wipe", d, 3, 1)
	lost(t, "Crash", d.Crash(0, 1), 3)
	reads(t, "Crash", d, "x", "fghij")

	d = safe(t, 5, "abcde", "fghij")
	writes(t, d, 0, "yz")
	answers(t, "Wipe", d.Wipe(0), api.OK)
	answers(t, "Wipe", d.Wipe(1), api.OK)
	d.Sync()
	reads(t, "Sync", d, "yz", "")
}

// A disk that nobody made

func TestNilDisk(t *testing.T) {
	var d *Disk
	for _, n := range []int{math.MinInt, -1, 0, 1, 1024, 1025, math.MaxInt} {
		for _, b := range [][]byte{nil, {}, []byte("x"), make([]byte, 4097)} {
			answers(t, "Write", d.Write(n, b), api.ErrNil)
		}
		if b := d.Read(n); len(b) != 0 {
			t.Errorf("cell %d reads %q", n, b)
		}
		for _, m := range []int{math.MinInt, -1, 0, 1, math.MaxInt} {
			lost(t, "Crash", d.Crash(n, m), 0)
			answers(t, "Spoil", d.Spoil(n, m, 1), api.ErrNil)
		}
		answers(t, "Wipe", d.Wipe(n), api.ErrNil)
	}
	answers(t, "Sync", d.Sync(), api.ErrNil)
	loose(t, "a nil disk", d, 0, 0)
	if c, s := d.Len(); c != 0 || s != 0 {
		t.Error(c, s)
	}
}

// The chapter says nothing of it: it has no cells.
func TestZeroDisk(t *testing.T) {
	d := &Disk{}
	reads(t, "the zero disk", d)
	answers(t, "Write", d.Write(0, nil), api.ErrArg)
	answers(t, "Spoil", d.Spoil(0, 0, 1), api.ErrArg)
	answers(t, "Wipe", d.Wipe(0), api.ErrArg)
	lost(t, "Crash", d.Crash(1, 1), 0)
	answers(t, "Sync", d.Sync(), api.OK)
	if b := d.Read(0); len(b) != 0 {
		t.Errorf("it reads %q", b)
	}
}

// All promises together

// compare checks that the disk is as the model says.
func compare(t *testing.T, what string, d *Disk, m *model) {
	t.Helper()
	loose(t, what, d, len(m.order), m.syncs)
	for cell := -1; cell <= len(m.cells); cell++ {
		if got, want := string(d.Read(cell)), m.read(cell); got != want {
			t.Fatalf("%s: cell %d reads %q, want %q", what, cell, got, want)
		}
	}
}

func TestAnyCallsInAnyOrder(t *testing.T) {
	dice := dice(2)
	for range 400 {
		cells, size := 1+dice.below(4), 1+dice.below(6)
		d, m := disk(t, cells, size), &model{size: size, cells: make([]string, cells)}
		for range 60 {
			var what string
			cell, n := dice.below(cells+2)-1, dice.below(8)-1
			switch dice.below(12) {
			case 0:
				what = "Sync"
				answers(t, what, d.Sync(), m.sync())
			case 1:
				keep := dice.below(8) - 1
				what = fmt.Sprintf("Crash(%d, %d)", keep, n)
				lost(t, what, d.Crash(keep, n), m.crash(keep, n))
			case 2, 3:
				bits := byte(dice.below(256))
				what = fmt.Sprintf("Spoil(%d, %d, %d)", cell, n, bits)
				answers(t, what, d.Spoil(cell, n, bits), m.spoil(cell, n, bits))
			case 4:
				what = fmt.Sprintf("Wipe(%d)", cell)
				answers(t, what, d.Wipe(cell), m.wipe(cell))
			default:
				b := dice.bytes(dice.below(size + 2))
				what = fmt.Sprintf("Write(%d, %q)", cell, b)
				answers(t, what, d.Write(cell, b), m.write(cell, string(b)))
			}
			compare(t, what, d, m)
		}
	}
}

// What was synced is there behind any crash, in each cell without loose writes.
func TestWhatWasSyncedStays(t *testing.T) {
	for keep := -1; keep < 6; keep++ {
		for n := -1; n < 7; n++ {
			d := safe(t, 5, "abcde", "fghij", "klmno")
			writes(t, d, 0, "vwxyz", 2, "y", 0, "", 2, "zz")
			d.Crash(keep, n)
			if got := string(d.Read(1)); got != "fghij" {
				t.Errorf("Crash(%d, %d): %q", keep, n, got)
			}
		}
	}
}

// Memory

func TestWriteKeepsNothingOfItsArgument(t *testing.T) {
	d := disk(t, 3, 4)
	whole := []byte("abcdefgh")
	b := whole[2:5]
	answers(t, "Write", d.Write(0, b), api.OK)
	answers(t, "Write", d.Write(1, b), api.OK)
	copy(whole, "XXXXXXXX")
	reads(t, "loose", d, "cde", "cde", "")
	answers(t, "Write", d.Write(2, b), api.OK)
	copy(whole, "YYYYYYYY")
	d.Sync()
	reads(t, "synced", d, "cde", "cde", "XXX")
	copy(whole, "ZZZZZZZZ")
	reads(t, "synced", d, "cde", "cde", "XXX")
}

func TestNoCallChangesWhatWasWritten(t *testing.T) {
	whole := []byte("abcdefgh")
	b := whole[2:5]
	d := disk(t, 2, 4)
	for _, call := range []func(){
		func() { d.Write(0, b) },
		func() { d.Write(1, b) },
		func() { d.Write(2, b) },
		func() { d.Write(0, whole) },
		func() { d.Spoil(0, 0, 255) },
		func() { d.Sync() },
		func() { d.Spoil(0, 0, 255) },
		func() { d.Spoil(1, 2, 255) },
		func() { d.Write(0, b); d.Crash(0, 2) },
		func() { d.Spoil(0, 0, 255) },
		func() { d.Write(1, whole[:4]); d.Write(1, b); d.Crash(1, 2) },
		func() { d.Spoil(1, 0, 255) },
		func() { d.Write(1, b); d.Crash(1, 0) },
		func() { d.Spoil(1, 0, 255) },
		func() { d.Wipe(0) },
		func() { d.Write(0, b); d.Crash(0, 2) },
		func() { d.Spoil(0, 1, 255) },
	} {
		call()
		if string(whole) != "abcdefgh" {
			t.Fatalf("now it is %q", whole)
		}
	}
}

// Two writes of the same bytes share none: to spoil one cell leaves the other as it was.
func TestCellsAreApart(t *testing.T) {
	b := []byte("abc")
	d := disk(t, 3, 3)
	for i := range 3 {
		answers(t, "Write", d.Write(i, b), api.OK)
	}
	d.Sync()
	answers(t, "Spoil", d.Spoil(1, 0, 1), api.OK)
	reads(t, "Spoil", d, "abc", "`bc", "abc")
	writes(t, d, 0, "xyz")
	d.Write(1, d.Read(0))
	d.Write(2, d.Read(0))
	d.Crash(2, 1)
	answers(t, "Spoil", d.Spoil(0, 0, 1), api.OK)
	answers(t, "Spoil", d.Spoil(2, 2, 1), api.OK)
	reads(t, "Spoil", d, "yyz", "xyz", "xbb")
}

func TestDisksAreApart(t *testing.T) {
	one, two := safe(t, 3, "abc"), safe(t, 3, "abc")
	writes(t, one, 0, "x")
	one.Sync()
	one.Wipe(0)
	reads(t, "the other one", two, "abc")
	loose(t, "the other one", two, 0, 1)
}

// scribble writes over a slice and its spare capacity.
func scribble(b []byte) {
	b = b[:cap(b)]
	for i := range b {
		b[i] = '!'
	}
}

func TestWhatIsReadIsApart(t *testing.T) {
	d := safe(t, 4, "abcd", "ef", "")
	for _, c := range []struct {
		call func()
		want []string
	}{
		{func() {}, []string{"abcd", "ef", ""}},
		{func() { writes(t, d, 0, "wxyz", 2, "v") }, []string{"wxyz", "ef", "v"}},
		{func() { d.Sync() }, []string{"wxyz", "ef", "v"}},
		{func() { writes(t, d, 0, "XXXX"); d.Crash(0, 2) }, []string{"XXyz", "ef", "v"}},
	} {
		c.call()
		for i, want := range c.want {
			one, two := d.Read(i), d.Read(i)
			scribble(one)
			if string(two) != want {
				t.Errorf("cell %d: what was read of it before is %q, want %q", i, two, want)
			}
			scribble(two)
			scribble(append(d.Read(i), "more"...))
			reads(t, "scribbled over", d, c.want...)
		}
	}
}

func TestWhatWasReadStays(t *testing.T) {
	d := safe(t, 4, "abcd", "ef")
	was := d.Read(0)
	writes(t, d, 0, "wxyz")
	written := d.Read(0)
	for _, call := range []func(){
		func() { d.Spoil(0, 0, 255) },
		func() { d.Sync() },
		func() { d.Spoil(0, 0, 255) },
		func() { d.Write(0, []byte("1234")); d.Crash(0, 2) },
		func() { d.Spoil(0, 0, 255) },
		func() { d.Wipe(0) },
		func() { d.Write(0, []byte("5678")) },
	} {
		call()
		if string(was) != "abcd" || string(written) != "wxyz" {
			t.Fatalf("what was read is %q and %q now", was, written)
		}
	}
}

func TestSpareCapacityDoesNotCount(t *testing.T) {
	d := disk(t, 1, 3)
	answers(t, "Write", d.Write(0, make([]byte, 3, 100)), api.OK)
	answers(t, "Write", d.Write(0, make([]byte, 4, 4)), api.ErrLong)
	answers(t, "Write", d.Write(0, []byte("abcdef")[:2]), api.OK)
	reads(t, "loose", d, "ab")
	d.Sync()
	reads(t, "synced", d, "ab")
	answers(t, "Spoil", d.Spoil(0, 2, 1), api.ErrArg)
	answers(t, "Write", d.Write(0, []byte("wxyz")[:1]), api.OK)
	d.Crash(0, 2)
	reads(t, "Crash", d, "wb")
}
