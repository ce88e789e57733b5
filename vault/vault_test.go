package vault

import (
	"bytes"
	"encoding/binary"
	"fmt"
	"hash/crc32"
	"math"
	"slices"
	"testing"

	"coldframe/api"
	"coldframe/platter"
)

// dice makes numbers that look as if they were random; the seed tells which.
type dice uint64

// below returns a number from 0 to n - 1.
func (d *dice) below(n int) int {
	*d = *d*6364136223846793005 + 1442695040888963407
	return int(*d>>33) % n
}

// text makes n bytes.
func (d *dice) text(n int) string {
	b := make([]byte, n)
	for i := range b {
		b[i] = byte(d.below(256))
	}
	return string(b)
}

// name makes a name whose numbers are few, so that names that differ in one number alone are there often.
func (d *dice) name() api.Shard {
	n := []uint32{0, 1, 2, 255, 256, 65535}
	return api.Shard{Object: n[d.below(6)], Stripe: uint16(n[d.below(6)]), Slot: uint16(n[d.below(6)]), Gen: n[d.below(6)]}
}

// name makes the name of a shard from its numbers, of which those that are missing are 0.
func name(n ...int) api.Shard {
	n = append(n, make([]int, 4)...)
	return api.Shard{Object: uint32(n[0]), Stripe: uint16(n[1]), Slot: uint16(n[2]), Gen: uint32(n[3])}
}

// frame makes a frame by hand.
func frame(kind int, load string) string {
	b := []byte{0x1D, 0xCF}
	b = binary.LittleEndian.AppendUint16(b, uint16(kind))
	b = binary.LittleEndian.AppendUint32(b, uint32(len(load)))
	sum := crc32.Checksum([]byte(string(b)+load), crc32.MakeTable(crc32.Castagnoli))
	return string(binary.LittleEndian.AppendUint32(b, sum)) + load
}

// bare makes the bytes of a name by hand.
func bare(s api.Shard) string {
	b := binary.LittleEndian.AppendUint32(nil, s.Object)
	b = binary.LittleEndian.AppendUint16(b, s.Stripe)
	b = binary.LittleEndian.AppendUint16(b, s.Slot)
	return string(binary.LittleEndian.AppendUint32(b, s.Gen))
}

// whole makes by hand what a cell has in which a shard stands.
func whole(s api.Shard, data string) string {
	return frame(1, bare(s)+data)
}

// disk makes a disk.
func disk(t *testing.T, cells, size int) *platter.Disk {
	t.Helper()
	d, e := platter.New(cells, size)
	if e != api.OK {
		t.Fatalf("New(%d, %d): error %d", cells, size, e)
	}
	return d
}

// safe makes a disk that has these cells, of at most size bytes, without loose writes. It has synced once.
func safe(t *testing.T, size int, cells ...string) *platter.Disk {
	t.Helper()
	d := disk(t, len(cells), size)
	for i, c := range cells {
		answers(t, "Write", d.Write(i, []byte(c)), api.OK)
	}
	answers(t, "Sync", d.Sync(), api.OK)
	return d
}

// open opens a disk.
func open(t *testing.T, d *platter.Disk) *Vault {
	t.Helper()
	v, e := Open(d)
	if e != api.OK || v == nil {
		t.Fatalf("Open: %v, error %d", v, e)
	}
	return v
}

// fresh makes a disk without bytes, and opens it.
func fresh(t *testing.T, cells, size int) (*platter.Disk, *Vault) {
	t.Helper()
	d := disk(t, cells, size)
	return d, open(t, d)
}

// answers checks an error.
func answers(t *testing.T, what string, e, want api.Errno) {
	t.Helper()
	if e != want {
		t.Errorf("%s: error %d, want %d", what, e, want)
	}
}

// puts puts shards, and wants no error.
func puts(t *testing.T, v *Vault, names ...api.Shard) {
	t.Helper()
	for _, s := range names {
		answers(t, fmt.Sprint("Put of ", s), v.Put(s, []byte(fmt.Sprint(s.Object))), api.OK)
	}
}

// reads checks what is read of all cells.
func reads(t *testing.T, what string, d *platter.Disk, want ...string) {
	t.Helper()
	for i, w := range want {
		if got := string(d.Read(i)); got != w {
			t.Errorf("%s: cell %d reads %x, want %x", what, i, got, w)
		}
	}
	if n, _ := d.Len(); n != len(want) {
		t.Errorf("%s: %d cells, want %d", what, n, len(want))
	}
}

// loose checks how many writes are loose, and how many Syncs there were.
func loose(t *testing.T, what string, d *platter.Disk, writes, syncs int) {
	t.Helper()
	if w, s := d.Loose(); w != writes || s != syncs {
		t.Errorf("%s: %d loose writes, %d Syncs; want %d, %d", what, w, s, writes, syncs)
	}
}

// at is a name, and the cell in which a vault is to know it.
type at struct {
	s    api.Shard
	cell int
}

// knows checks what a vault knows, and that it is these shards alone.
func knows(t *testing.T, what string, v *Vault, want ...at) {
	t.Helper()
	var names []api.Shard
	for _, w := range want {
		names = append(names, w.s)
		if got := v.Cell(w.s); got != w.cell {
			t.Errorf("%s: %v is in cell %d, want %d", what, w.s, got, w.cell)
		}
		if !v.Has(w.s) {
			t.Errorf("%s: %v is not known", what, w.s)
		}
	}
	slices.SortFunc(names, slowCompare)
	if got := v.List(); !slices.Equal(got, names) {
		t.Errorf("%s: List is %v, want %v", what, got, names)
	}
	if got := v.Len(); got != len(want) {
		t.Errorf("%s: Len is %d, want %d", what, got, len(want))
	}
}

// unknown checks that a vault doesn't know these names.
func unknown(t *testing.T, what string, v *Vault, names ...api.Shard) {
	t.Helper()
	for _, s := range names {
		if v.Has(s) || v.Cell(s) != -1 {
			t.Errorf("%s: %v is known in cell %d", what, s, v.Cell(s))
		}
		gets(t, what, v, s, "", api.ErrNone)
	}
}

// gets checks what Get returns.
func gets(t *testing.T, what string, v *Vault, s api.Shard, want string, err api.Errno) {
	t.Helper()
	b, e := v.Get(s)
	answers(t, fmt.Sprintf("%s: Get of %v", what, s), e, err)
	if string(b) != want {
		t.Errorf("%s: Get of %v is %q, want %q", what, s, b, want)
	}
}

// slowCompare compares names as texts of digits of one length.
func slowCompare(a, b api.Shard) int {
	text := func(s api.Shard) string {
		return fmt.Sprintf("%010d %05d %05d %010d", s.Object, s.Stripe, s.Slot, s.Gen)
	}
	switch {
	case text(a) < text(b):
		return -1
	case text(a) > text(b):
		return 1
	}
	return 0
}

// P12.1

// Each name is below the next one: they differ in one number alone, or an earlier number says the other way than the later
// ones.
func TestCompare(t *testing.T) {
	l := []api.Shard{
		{},
		{Gen: 1},
		{Gen: 255},
		{Gen: 256},
		{Gen: 65535},
		{Gen: 65536},
		{Gen: 1<<31 - 1},
		{Gen: 1 << 31},
		{Gen: math.MaxUint32},
		{Slot: 1},
		{Slot: 1, Gen: 7},
		{Slot: 2, Gen: 6},
		{Slot: 255},
		{Slot: 256},
		{Slot: 1<<15 - 1},
		{Slot: 1 << 15},
		{Slot: math.MaxUint16, Gen: math.MaxUint32},
		{Stripe: 1},
		{Stripe: 1, Slot: 5, Gen: 9},
		{Stripe: 1, Slot: 6, Gen: 8},
		{Stripe: 2, Slot: 5, Gen: 9},
		{Stripe: 255},
		{Stripe: 256},
		{Stripe: 1<<15 - 1},
		{Stripe: 1 << 15},
		{Stripe: math.MaxUint16, Slot: math.MaxUint16, Gen: math.MaxUint32},
		{Object: 1},
		{Object: 1, Gen: 1},
		{Object: 1, Slot: 1},
		{Object: 1, Stripe: 1},
		{Object: 3, Stripe: 9, Slot: 9, Gen: 9},
		{Object: 4, Stripe: 8, Slot: 9, Gen: 9},
		{Object: 5},
		{Object: 255},
		{Object: 256},
		{Object: 65535, Stripe: 1},
		{Object: 65536},
		{Object: 1<<31 - 1},
		{Object: 1 << 31},
		{Object: math.MaxUint32},
		{Object: math.MaxUint32, Stripe: math.MaxUint16, Slot: math.MaxUint16, Gen: math.MaxUint32},
	}
	for i, a := range l {
		for j, b := range l {
			want := 0
			switch {
			case i < j:
				want = -1
			case i > j:
				want = 1
			}
			if got := Compare(a, b); got != want {
				t.Errorf("Compare(%v, %v) is %d, want %d", a, b, got, want)
			}
		}
	}
}

func TestCompareOfManyNames(t *testing.T) {
	d := dice(1)
	for range 5000 {
		a, b := d.name(), d.name()
		if d.below(2) == 0 {
			b.Object = a.Object
		}
		if d.below(2) == 0 {
			b.Stripe = a.Stripe
		}
		if d.below(2) == 0 {
			b.Slot = a.Slot
		}
		if got, want := Compare(a, b), slowCompare(a, b); got != want {
			t.Fatalf("Compare(%v, %v) is %d, want %d", a, b, got, want)
		}
	}
}

func TestOpenOfANilDisk(t *testing.T) {
	if v, e := Open(nil); v != nil || e != api.ErrNil {
		t.Errorf("%v, error %d", v, e)
	}
}

func TestOpenWithoutBytes(t *testing.T) {
	for _, c := range []struct{ cells, size int }{{1, 1}, {1, 24}, {3, 40}, {1024, 4096}} {
		d, v := fresh(t, c.cells, c.size)
		knows(t, "Open", v)
		unknown(t, "Open", v, name(), name(1, 1, 1, 1))
		reads(t, "Open", d, make([]string, c.cells)...)
	}
}

func TestOpen(t *testing.T) {
	most := name(math.MaxUint32, math.MaxUint16, math.MaxUint16, math.MaxUint32)
	d := safe(t, 40, whole(name(5, 4, 3, 2), "five"), "", whole(name(), ""), whole(most, "sixteen bytes ok"), "rubbish", whole(name(1), "\x00"))
	v := open(t, d)
	knows(t, "Open", v, at{name(5, 4, 3, 2), 0}, at{name(), 2}, at{most, 3}, at{name(1), 5})
	gets(t, "Open", v, name(5, 4, 3, 2), "five", api.OK)
	gets(t, "Open", v, name(), "", api.OK)
	gets(t, "Open", v, most, "sixteen bytes ok", api.OK)
	gets(t, "Open", v, name(1), "\x00", api.OK)
	unknown(t, "Open", v, name(5, 4, 3), name(5, 4, 3, 1), name(2, 3, 4, 5), name(0, 0, 0, 1))
}

func TestOpenOfNamesThatAreThereTwice(t *testing.T) {
	a, b := name(1, 2, 3, 4), name(1, 2, 3, 5)
	d := safe(t, 40, "", whole(a, "first"), whole(b, "b"), whole(a, "second"), whole(a, "first"), whole(b, ""))
	v := open(t, d)
	knows(t, "Open", v, at{a, 1}, at{b, 2})
	gets(t, "Open", v, a, "first", api.OK)
	gets(t, "Open", v, b, "b", api.OK)
	answers(t, "Spoil", d.Spoil(1, 25, 1), api.OK)
	gets(t, "the first one spoilt", v, a, "", api.ErrSum)
	v = open(t, d)
	knows(t, "opened again", v, at{a, 3}, at{b, 2})
	gets(t, "opened again", v, a, "second", api.OK)
}

// noShards returns cells in which no shard of that name and data stands, with the error that they have as that of a shard.
func noShards(s api.Shard, data string) map[string]struct {
	cell string
	err  api.Errno
} {
	type row = struct {
		cell string
		err  api.Errno
	}
	w := whole(s, data)
	turned := func(i int) string {
		b := []byte(w)
		b[i] ^= 4
		return string(b)
	}
	return map[string]row{
		"no bytes":                           {"", api.ErrForm},
		"a byte":                             {"x", api.ErrForm},
		"rubbish":                            {"this is no frame of a shard", api.ErrForm},
		"11 bytes of a frame":                {w[:11], api.ErrForm},
		"12 bytes of a frame":                {w[:12], api.ErrForm},
		"all but a byte":                     {w[:len(w)-1], api.ErrForm},
		"a byte behind":                      {w + "\x00", api.ErrForm},
		"a byte ahead":                       {"\x00" + w, api.ErrForm},
		"bytes behind":                       {w + "1234", api.ErrForm},
		"two frames":                         {frame(1, bare(s)) + frame(1, ""), api.ErrForm},
		"the mark wrong":                     {turned(0), api.ErrForm},
		"the mark's other byte wrong":        {turned(1), api.ErrForm},
		"the kind wrong":                     {turned(2), api.ErrSum},
		"the sum wrong":                      {turned(8), api.ErrSum},
		"the sum's last byte wrong":          {turned(11), api.ErrSum},
		"the name wrong":                     {turned(12), api.ErrSum},
		"the name's end wrong":               {turned(23), api.ErrSum},
		"the data wrong":                     {turned(24), api.ErrSum},
		"the data's end wrong":               {turned(len(w) - 1), api.ErrSum},
		"the sum wrong and a byte behind":    {turned(8) + "x", api.ErrSum},
		"another kind, 0":                    {frame(0, bare(s)+data), api.ErrForm},
		"another kind, 2":                    {frame(2, bare(s)+data), api.ErrForm},
		"another kind, 256":                  {frame(256, bare(s)+data), api.ErrForm},
		"another kind, 257":                  {frame(257, bare(s)+data), api.ErrForm},
		"another kind, 65535":                {frame(65535, bare(s)+data), api.ErrForm},
		"another kind, and a byte behind":    {frame(3, bare(s)+data) + "x", api.ErrForm},
		"a frame that bears nothing":         {frame(1, ""), api.ErrForm},
		"a frame that bears a byte":          {frame(1, bare(s)[:1]), api.ErrForm},
		"a frame that bears 4 bytes":         {frame(1, bare(s)[:4]), api.ErrForm},
		"a frame that bears 8 bytes":         {frame(1, bare(s)[:8]), api.ErrForm},
		"a frame that bears 11 bytes":        {frame(1, bare(s)[:11]), api.ErrForm},
		"a frame that bears 11 zeros":        {frame(1, string(make([]byte, 11))), api.ErrForm},
		"a frame that bears 11 and one more": {frame(1, bare(s)[:11]) + bare(s)[11:], api.ErrForm},
		"a name without a frame":             {bare(s) + data, api.ErrForm},
		"a head without its last byte":       {w[:11] + w[12:], api.ErrForm},
		"an empty frame's head ahead":        {frame(1, "")[:11] + bare(s), api.ErrSum},
	}
}

func TestOpenOfCellsThatAreNoShards(t *testing.T) {
	for _, s := range []api.Shard{name(1, 2, 3, 4), name()} {
		for what, c := range noShards(s, "data") {
			d := safe(t, 60, c.cell, whole(name(7), "seven"), c.cell)
			v := open(t, d)
			knows(t, what, v, at{name(7), 1})
			unknown(t, what, v, s)
			gets(t, what, v, name(7), "seven", api.OK)
			d = safe(t, 60, c.cell, whole(s, "whole"))
			knows(t, what+", and whole", open(t, d), at{s, 1})
		}
	}
}

// A byte more, or a bit less, and a shard stands no more in the cell.
func TestOpenOfEachBitTurned(t *testing.T) {
	s := name(258, 772, 1286, 1800)
	for i := range len(whole(s, "data")) {
		for bit := range 8 {
			d := safe(t, 40, whole(s, "data"))
			d.Spoil(0, i, 1<<bit)
			knows(t, fmt.Sprintf("byte %d, bit %d", i, bit), open(t, d))
		}
	}
}

func TestOpenReadsLooseWrites(t *testing.T) {
	a, b, c := name(1), name(2), name(3)
	d := safe(t, 40, whole(a, "old"), whole(b, "b"), "", whole(c, "c"))
	d.Write(0, []byte(whole(a, "new")))
	d.Write(1, nil)
	d.Write(2, []byte(whole(b, "1st")))
	d.Write(2, []byte(whole(b, "2nd")))
	d.Write(3, []byte("rubbish"))
	v := open(t, d)
	knows(t, "loose", v, at{a, 0}, at{b, 2})
	gets(t, "loose", v, a, "new", api.OK)
	gets(t, "loose", v, b, "2nd", api.OK)
	loose(t, "Open", d, 5, 1)
	d.Crash(0, 0)
	v = open(t, d)
	knows(t, "behind a crash", v, at{a, 0}, at{b, 1}, at{c, 3})
	gets(t, "behind a crash", v, a, "old", api.OK)
}

func TestOpenOfAFullDisk(t *testing.T) {
	d := disk(t, platter.MostCells, platter.MostSize)
	data := string(bytes.Repeat([]byte{'x'}, platter.MostSize-24))
	var want []at
	for i := range platter.MostCells {
		s := name(i%7, i/7, i%5, 1<<20-i)
		want = append(want, at{s, i})
		d.Write(i, []byte(whole(s, data[i:])))
	}
	v := open(t, d)
	knows(t, "full", v, want...)
	for i, w := range want {
		gets(t, "full", v, w.s, data[i:], api.OK)
	}
}

// Neither Open nor any call that only tells something changes the disk.
func TestWhatOnlyTellsLeavesTheDisk(t *testing.T) {
	cells := []string{whole(name(1), "one"), "rubbish", whole(name(1), "again"), whole(name(2), "two") + "x", ""}
	d := safe(t, 40, cells...)
	d.Write(4, []byte("loose"))
	cells[4] = "loose"
	for range 2 {
		v := open(t, d)
		v.Len()
		v.List()
		for _, s := range []api.Shard{name(1), name(2), name(3)} {
			v.Has(s)
			v.Cell(s)
			v.Get(s)
		}
		knows(t, "told", v, at{name(1), 0})
		reads(t, "told", d, cells...)
		loose(t, "told", d, 1, 1)
	}
}

func TestLenHasListCell(t *testing.T) {
	_, v := fresh(t, 5, 40)
	knows(t, "of none", v)
	puts(t, v, name(3))
	knows(t, "of one", v, at{name(3), 0})
	puts(t, v, name(1, 1), name(1), name(2), name(0, 0, 0, 9))
	all := []at{{name(3), 0}, {name(1, 1), 1}, {name(1), 2}, {name(2), 3}, {name(0, 0, 0, 9), 4}}
	knows(t, "of five", v, all...)
	if l := v.List(); !slices.Equal(l, []api.Shard{name(0, 0, 0, 9), name(1), name(1, 1), name(2), name(3)}) {
		t.Error(l)
	}
	unknown(t, "of five", v, name(), name(0, 0, 0, 8), name(1, 2), name(1, 1, 1), name(1, 1, 0, 1), name(4))
	answers(t, "Drop", v.Drop(name(1)), api.OK)
	knows(t, "of four", v, all[0], all[1], all[3], all[4])
	unknown(t, "of four", v, name(1))
}

// What a vault knows does not hang on what happens to the disk behind its back.
func TestHasOfWhatWasSpoilt(t *testing.T) {
	d, v := fresh(t, 4, 40)
	puts(t, v, name(1), name(2), name(3), name(4))
	d.Spoil(0, 13, 1)
	d.Wipe(1)
	d.Write(2, []byte("x"))
	d.Write(3, []byte(whole(name(9), "")))
	knows(t, "spoilt", v, at{name(1), 0}, at{name(2), 1}, at{name(3), 2}, at{name(4), 3})
	unknown(t, "spoilt", v, name(9))
	d.Crash(2, 0)
	knows(t, "crashed", v, at{name(1), 0}, at{name(2), 1}, at{name(3), 2}, at{name(4), 3})
}

func TestListRises(t *testing.T) {
	d := dice(2)
	for range 30 {
		n := 1 + d.below(60)
		_, v := fresh(t, 60, 24)
		var want []api.Shard
		for range n {
			s := d.name()
			if v.Begin(s, nil) == api.OK {
				want = append(want, s)
			}
		}
		slices.SortFunc(want, slowCompare)
		if l := v.List(); !slices.Equal(l, want) || len(l) != v.Len() {
			t.Fatalf("%v, want %v", l, want)
		}
	}
}

// P12.2

// What stands in the cell is told here byte by byte.
func TestBeginWritesAFrame(t *testing.T) {
	d, v := fresh(t, 1, 28)
	answers(t, "Begin", v.Begin(api.Shard{Object: 0x04030201, Stripe: 0x0605, Slot: 0x0807, Gen: 0x0C0B0A09}, []byte("data")), api.OK)
	load := "\x01\x02\x03\x04\x05\x06\x07\x08\x09\x0A\x0B\x0Cdata"
	sum := crc32.Checksum([]byte("\x1D\xCF\x01\x00\x10\x00\x00\x00"+load), crc32.MakeTable(crc32.Castagnoli))
	want := "\x1D\xCF\x01\x00\x10\x00\x00\x00" + string([]byte{byte(sum), byte(sum >> 8), byte(sum >> 16), byte(sum >> 24)}) + load
	reads(t, "Begin", d, want)
}

func TestBegin(t *testing.T) {
	d, v := fresh(t, 3, 40)
	for i, c := range []struct {
		s    api.Shard
		data string
	}{{name(2, 1), "two"}, {name(1, 2), ""}, {name(1, 1), "sixteen bytes ok"}} {
		answers(t, "Begin", v.Begin(c.s, []byte(c.data)), api.OK)
		loose(t, "Begin", d, i+1, 0)
		gets(t, "Begin", v, c.s, c.data, api.OK)
	}
	knows(t, "Begin", v, at{name(2, 1), 0}, at{name(1, 2), 1}, at{name(1, 1), 2})
	reads(t, "Begin", d, whole(name(2, 1), "two"), whole(name(1, 2), ""), whole(name(1, 1), "sixteen bytes ok"))
	d.Crash(0, 0)
	reads(t, "lost", d, "", "", "")
}

func TestPut(t *testing.T) {
	d, v := fresh(t, 3, 40)
	for i, c := range []struct {
		s    api.Shard
		data string
	}{{name(2, 1), "two"}, {name(1, 2), ""}, {name(1, 1), "sixteen bytes ok"}} {
		answers(t, "Put", v.Put(c.s, []byte(c.data)), api.OK)
		loose(t, "Put", d, 0, i+1)
		gets(t, "Put", v, c.s, c.data, api.OK)
	}
	knows(t, "Put", v, at{name(2, 1), 0}, at{name(1, 2), 1}, at{name(1, 1), 2})
	d.Crash(0, 0)
	reads(t, "Put", d, whole(name(2, 1), "two"), whole(name(1, 2), ""), whole(name(1, 1), "sixteen bytes ok"))
}

// Put syncs what was begun ahead of it, too.
func TestPutSyncsAll(t *testing.T) {
	d, v := fresh(t, 4, 40)
	answers(t, "Begin", v.Begin(name(1), []byte("one")), api.OK)
	d.Write(3, []byte("other"))
	answers(t, "Put", v.Put(name(2), []byte("two")), api.OK)
	loose(t, "Put", d, 0, 1)
	d.Crash(0, 0)
	reads(t, "Put", d, whole(name(1), "one"), whole(name(2), "two"), "", "other")
}

// writers are the calls that write a shard.
func writers(v *Vault) map[string]func(api.Shard, []byte) api.Errno {
	return map[string]func(api.Shard, []byte) api.Errno{"Begin": v.Begin, "Put": v.Put}
}

// refuses checks that neither Begin nor Put writes, and that nothing changes.
func refuses(t *testing.T, what string, v *Vault, d *platter.Disk, s api.Shard, data []byte, want api.Errno) {
	t.Helper()
	var before []string
	n, _ := d.Len()
	for i := range n {
		before = append(before, string(d.Read(i)))
	}
	var known []at
	for _, s := range v.List() {
		known = append(known, at{s, v.Cell(s)})
	}
	writes, syncs := d.Loose()
	for call, f := range writers(v) {
		answers(t, what+": "+call, f(s, data), want)
		reads(t, what+": "+call, d, before...)
		knows(t, what+": "+call, v, known...)
		loose(t, what+": "+call, d, writes, syncs)
	}
}

func TestTwice(t *testing.T) {
	d, v := fresh(t, 3, 30)
	puts(t, v, name(1))
	answers(t, "Begin", v.Begin(name(2), []byte("two")), api.OK)
	for _, s := range []api.Shard{name(1), name(2)} {
		refuses(t, "other data", v, d, s, []byte("other"), api.ErrTwice)
		refuses(t, "no data", v, d, s, nil, api.ErrTwice)
		refuses(t, "the same data", v, d, s, []byte("two"), api.ErrTwice)
		refuses(t, "too long", v, d, s, make([]byte, 7), api.ErrTwice)
		refuses(t, "without a frame", v, d, s, make([]byte, 1<<16), api.ErrTwice)
		refuses(t, "far too long", v, d, s, make([]byte, 1<<17), api.ErrTwice)
	}
	d.Spoil(0, 14, 1)
	refuses(t, "spoilt", v, d, name(1), nil, api.ErrTwice)
	d.Wipe(0)
	refuses(t, "wiped", v, d, name(1), nil, api.ErrTwice)
	d.Write(0, []byte(whole(name(5), "five")))
	refuses(t, "written over", v, d, name(1), nil, api.ErrTwice)
	answers(t, "a name that stands on the disk, but isn't known", v.Put(name(5), nil), api.OK)
	refuses(t, "full", v, d, name(1), nil, api.ErrTwice)
	refuses(t, "full and too long", v, d, name(1), make([]byte, 7), api.ErrTwice)
	refuses(t, "full and without a frame", v, d, name(2), make([]byte, 1<<16), api.ErrTwice)
}

// A name is another one where one number differs.
func TestNamesThatDifferInOneNumber(t *testing.T) {
	l := []api.Shard{
		{Object: 1, Stripe: 1, Slot: 1, Gen: 1},
		{Object: 2, Stripe: 1, Slot: 1, Gen: 1},
		{Object: 1, Stripe: 2, Slot: 1, Gen: 1},
		{Object: 1, Stripe: 1, Slot: 2, Gen: 1},
		{Object: 1, Stripe: 1, Slot: 1, Gen: 2},
		{Object: 1 + 1<<16, Stripe: 1, Slot: 1, Gen: 1},
		{Object: 1, Stripe: 1 + 1<<8, Slot: 1, Gen: 1},
		{Object: 1, Stripe: 1, Slot: 1 + 1<<8, Gen: 1},
		{Object: 1, Stripe: 1, Slot: 1, Gen: 1 + 1<<16},
	}
	d, v := fresh(t, len(l), 40)
	var want []at
	for i, s := range l {
		unknown(t, "ahead of Put", v, l[i:]...)
		answers(t, "Put", v.Put(s, []byte{byte(i)}), api.OK)
		want = append(want, at{s, i})
	}
	for range 2 {
		knows(t, "Put", v, want...)
		for i, s := range l {
			gets(t, "Put", v, s, string([]byte{byte(i)}), api.OK)
		}
		v = open(t, d)
	}
}

func TestLong(t *testing.T) {
	for _, size := range []int{1, 11, 12, 23, 24, 25, 40, 255, 256, 257, 4095, 4096} {
		for _, n := range []int{0, 1, size - 25, size - 24, size - 23, size - 12, size, size + 1} {
			if n < 0 {
				continue
			}
			what := fmt.Sprintf("%d bytes, cells of %d", n, size)
			data := bytes.Repeat([]byte{'x'}, n)
			d, v := fresh(t, 2, size)
			if n > size-24 {
				refuses(t, what, v, d, name(1), data, api.ErrLong)
				loose(t, what, d, 0, 0)
				continue
			}
			answers(t, what, v.Begin(name(1), data), api.OK)
			answers(t, what, v.Put(name(2), data), api.OK)
			reads(t, what, d, whole(name(1), string(data)), whole(name(2), string(data)))
			gets(t, what, v, name(1), string(data), api.OK)
			gets(t, what, v, name(2), string(data), api.OK)
		}
	}
}

// A frame bears 65536 bytes at most: 12 of them are the name.
func TestMoreDataThanAFrameBears(t *testing.T) {
	d, v := fresh(t, 2, 4096)
	for _, n := range []int{4073, 1<<16 - 13, 1<<16 - 12, 1<<16 - 11, 1<<16 - 1, 1 << 16, 1<<16 + 1, 1<<17 - 12, 1 << 20, 1<<20 + 1} {
		refuses(t, fmt.Sprint(n, " bytes"), v, d, name(1), make([]byte, n), api.ErrLong)
	}
	puts(t, v, name(1), name(2))
	refuses(t, "full", v, d, name(3), make([]byte, 1<<16), api.ErrLong)
}

func TestNoData(t *testing.T) {
	d, v := fresh(t, 4, 24)
	answers(t, "nil", v.Begin(name(1), nil), api.OK)
	answers(t, "no bytes", v.Begin(name(2), []byte{}), api.OK)
	answers(t, "Put of nil", v.Put(name(3), nil), api.OK)
	answers(t, "Put of no bytes", v.Put(name(4), []byte{}), api.OK)
	for i := range 4 {
		gets(t, "no data", v, name(i+1), "", api.OK)
	}
	reads(t, "no data", d, whole(name(1), ""), whole(name(2), ""), whole(name(3), ""), whole(name(4), ""))
	knows(t, "opened again", open(t, d), at{name(1), 0}, at{name(2), 1}, at{name(3), 2}, at{name(4), 3})
}

func TestFull(t *testing.T) {
	for _, cells := range []int{1, 2, 7} {
		d, v := fresh(t, cells, 30)
		for i := range cells {
			puts(t, v, name(i))
		}
		refuses(t, "full", v, d, name(90), []byte("x"), api.ErrFull)
		refuses(t, "full", v, d, name(90), nil, api.ErrFull)
		refuses(t, "full", v, d, name(90), make([]byte, 6), api.ErrFull)
		refuses(t, "full and too long", v, d, name(90), make([]byte, 7), api.ErrLong)
		d.Spoil(0, 0, 1)
		d.Wipe(cells - 1)
		refuses(t, "full of shards that are not whole", v, d, name(90), nil, api.ErrFull)
		d.Crash(0, 0)
		w := open(t, d)
		answers(t, "opened again", w.Put(name(90), nil), api.OK)
		if w.Cell(name(90)) != 0 {
			t.Error("opened again: cell", w.Cell(name(90)))
		}
	}
}

func TestFullOfWhatWasBegun(t *testing.T) {
	d, v := fresh(t, 2, 30)
	answers(t, "Begin", v.Begin(name(1), nil), api.OK)
	answers(t, "Begin", v.Begin(name(2), nil), api.OK)
	refuses(t, "full", v, d, name(3), nil, api.ErrFull)
	d.Crash(0, 0)
	refuses(t, "behind a crash", v, d, name(3), nil, api.ErrFull)
	answers(t, "Drop", v.Drop(name(2)), api.OK)
	answers(t, "behind a Drop", v.Put(name(3), nil), api.OK)
	knows(t, "behind a Drop", v, at{name(1), 0}, at{name(3), 1})
}

// Cells with bytes that are no shard, and shards that the vault doesn't know, are written over.
func TestFirstCellWithoutAShard(t *testing.T) {
	for what, c := range noShards(name(1), "data") {
		d := safe(t, 60, whole(name(7), "7"), c.cell, "", c.cell)
		v := open(t, d)
		answers(t, what, v.Begin(name(8), []byte("eight")), api.OK)
		knows(t, what, v, at{name(7), 0}, at{name(8), 1})
		reads(t, what, d, whole(name(7), "7"), whole(name(8), "eight"), "", c.cell)
		answers(t, what, v.Put(name(1), []byte("new")), api.OK)
		answers(t, what, v.Put(name(0), []byte("zero")), api.OK)
		knows(t, what, v, at{name(7), 0}, at{name(8), 1}, at{name(1), 2}, at{name(0), 3})
		reads(t, what, d, whole(name(7), "7"), whole(name(8), "eight"), whole(name(1), "new"), whole(name(0), "zero"))
	}
}

func TestCellOfASecondOne(t *testing.T) {
	a := name(1, 2, 3, 4)
	d := safe(t, 40, whole(a, "first"), whole(a, "second"), "")
	v := open(t, d)
	answers(t, "Begin", v.Begin(name(9), []byte("nine")), api.OK)
	knows(t, "Begin", v, at{a, 0}, at{name(9), 1})
	reads(t, "Begin", d, whole(a, "first"), whole(name(9), "nine"), "")
}

func TestCellOfADroppedOne(t *testing.T) {
	d, v := fresh(t, 5, 40)
	puts(t, v, name(1), name(2), name(3), name(4))
	answers(t, "Drop", v.Drop(name(3)), api.OK)
	answers(t, "Drop", v.Drop(name(2)), api.OK)
	puts(t, v, name(5))
	knows(t, "Put", v, at{name(1), 0}, at{name(5), 1}, at{name(4), 3})
	puts(t, v, name(6))
	knows(t, "Put", v, at{name(1), 0}, at{name(5), 1}, at{name(6), 2}, at{name(4), 3})
	puts(t, v, name(3))
	knows(t, "Put", v, at{name(1), 0}, at{name(5), 1}, at{name(6), 2}, at{name(4), 3}, at{name(3), 4})
	answers(t, "Drop", v.Drop(name(1)), api.OK)
	puts(t, v, name(2))
	knows(t, "Put", v, at{name(2), 0}, at{name(5), 1}, at{name(6), 2}, at{name(4), 3}, at{name(3), 4})
	reads(t, "Put", d, whole(name(2), "2"), whole(name(5), "5"), whole(name(6), "6"), whole(name(4), "4"), whole(name(3), "3"))
}

// A shorter shard leaves nothing of the longer bytes that were there.
func TestBeginOverLongerBytes(t *testing.T) {
	d := safe(t, 60, "a great many bytes that are no shard at all, all the same")
	v := open(t, d)
	answers(t, "Put", v.Put(name(1), []byte("x")), api.OK)
	reads(t, "Put", d, whole(name(1), "x"))
	gets(t, "Put", v, name(1), "x", api.OK)
}

func TestPutOfWhatWasBegun(t *testing.T) {
	d, v := fresh(t, 2, 40)
	answers(t, "Begin", v.Begin(name(1), []byte("one")), api.OK)
	answers(t, "Put", v.Put(name(1), []byte("one")), api.ErrTwice)
	loose(t, "Put with an error", d, 1, 0)
	d.Sync()
	d.Crash(0, 0)
	gets(t, "synced", v, name(1), "one", api.OK)
}

// P12.3

func TestGetOfUnknownNames(t *testing.T) {
	d, v := fresh(t, 3, 40)
	unknown(t, "without bytes", v, name(), name(1))
	puts(t, v, name(1, 1, 1, 1))
	unknown(t, "one", v, name(), name(0, 1, 1, 1), name(1, 0, 1, 1), name(1, 1, 0, 1), name(1, 1, 1, 0), name(2, 1, 1, 1))
	d.Write(1, []byte(whole(name(5), "five")))
	unknown(t, "one that stands on the disk, but isn't known", v, name(5))
	gets(t, "opened again", open(t, d), name(5), "five", api.OK)
}

func TestGetOfAllBytes(t *testing.T) {
	var all []byte
	for i := range 256 {
		all = append(all, byte(i))
	}
	d, v := fresh(t, 2, 300)
	answers(t, "Put", v.Put(name(1), all), api.OK)
	answers(t, "Begin", v.Begin(name(2), all[100:]), api.OK)
	for range 2 {
		gets(t, "all bytes", v, name(1), string(all), api.OK)
		gets(t, "all bytes", v, name(2), string(all[100:]), api.OK)
		v = open(t, d)
	}
}

func TestGetOfCellsThatAreNotTheShard(t *testing.T) {
	s, data := name(1, 2, 3, 4), "data"
	cells := noShards(s, data)
	for what, other := range map[string]api.Shard{
		"another object":         name(2, 2, 3, 4),
		"another stripe":         name(1, 3, 3, 4),
		"another slot":           name(1, 2, 4, 4),
		"another generation":     name(1, 2, 3, 5),
		"no generation":          name(1, 2, 3),
		"another one altogether": name(),
	} {
		cells[what] = struct {
			cell string
			err  api.Errno
		}{whole(other, data), api.ErrForm}
	}
	for what, c := range cells {
		d, v := fresh(t, 2, 60)
		answers(t, "Put", v.Put(s, []byte(data)), api.OK)
		answers(t, "Put", v.Put(name(9), []byte("nine")), api.OK)
		gets(t, what+", ahead", v, s, data, api.OK)
		d.Write(0, []byte(c.cell))
		for range 2 {
			gets(t, what, v, s, "", c.err)
			gets(t, what, v, name(9), "nine", api.OK)
			d.Sync()
		}
		knows(t, what, v, at{s, 0}, at{name(9), 1})
		d.Write(0, []byte(whole(s, "other")))
		gets(t, what+", whole again", v, s, "other", api.OK)
	}
}

// The shard stands in another cell, but not in its own.
func TestGetLooksInItsCellAlone(t *testing.T) {
	d, v := fresh(t, 3, 40)
	puts(t, v, name(1), name(2))
	a, b := d.Read(0), d.Read(1)
	d.Write(0, b)
	d.Write(1, a)
	d.Write(2, a)
	gets(t, "exchanged", v, name(1), "", api.ErrForm)
	gets(t, "exchanged", v, name(2), "", api.ErrForm)
	knows(t, "exchanged", v, at{name(1), 0}, at{name(2), 1})
	knows(t, "opened again", open(t, d), at{name(1), 1}, at{name(2), 0})
}

func TestGetOfASpoiltCell(t *testing.T) {
	s := name(258, 772, 1286, 1800)
	size := len(whole(s, "data"))
	for i := range size {
		d, v := fresh(t, 1, 40)
		answers(t, "Put", v.Put(s, []byte("data")), api.OK)
		d.Spoil(0, i, 0)
		gets(t, "no bit turned", v, s, "data", api.OK)
		want := api.ErrSum
		if i < 2 || i >= 4 && i < 8 { // the mark, or a number above how many bytes stand there
			want = api.ErrForm
		}
		d.Spoil(0, i, 128)
		gets(t, fmt.Sprint("byte ", i), v, s, "", want)
		d.Spoil(0, i, 128)
		gets(t, "turned back", v, s, "data", api.OK)
	}
}

// A frame that says that it bears a byte less has another sum.
func TestGetOfAShorterFrame(t *testing.T) {
	d, v := fresh(t, 1, 40)
	answers(t, "Put", v.Put(name(1), []byte("data!")), api.OK)
	d.Spoil(0, 4, 1) // 17 bytes to 16
	gets(t, "shorter", v, name(1), "", api.ErrSum)
}

func TestGetOfAWipedCell(t *testing.T) {
	d, v := fresh(t, 2, 40)
	puts(t, v, name(1), name(2))
	d.Wipe(0)
	gets(t, "wiped", v, name(1), "", api.ErrForm)
	gets(t, "the other one", v, name(2), "2", api.OK)
	knows(t, "wiped", v, at{name(1), 0}, at{name(2), 1})
	knows(t, "opened again", open(t, d), at{name(2), 1})
}

func TestGetOfWhatWasBegun(t *testing.T) {
	d, v := fresh(t, 2, 40)
	answers(t, "Begin", v.Begin(name(1), []byte("one")), api.OK)
	gets(t, "loose", v, name(1), "one", api.OK)
	d.Wipe(0)
	gets(t, "wiped below", v, name(1), "one", api.OK)
	loose(t, "Get", d, 1, 0)
	d.Crash(0, 20)
	gets(t, "torn", v, name(1), "", api.ErrForm)
	d.Wipe(0)
	gets(t, "lost", v, name(1), "", api.ErrForm)
	knows(t, "lost", v, at{name(1), 0})
}

func TestDrop(t *testing.T) {
	d, v := fresh(t, 3, 40)
	puts(t, v, name(1), name(2), name(3))
	for _, s := range []api.Shard{name(), name(4), name(2, 1), name(2, 0, 1), name(2, 0, 0, 1)} {
		answers(t, "Drop of an unknown one", v.Drop(s), api.ErrNone)
	}
	loose(t, "Drop with an error", d, 0, 3)
	knows(t, "Drop with an error", v, at{name(1), 0}, at{name(2), 1}, at{name(3), 2})
	answers(t, "Drop", v.Drop(name(2)), api.OK)
	loose(t, "Drop", d, 0, 4)
	knows(t, "Drop", v, at{name(1), 0}, at{name(3), 2})
	unknown(t, "Drop", v, name(2))
	reads(t, "Drop", d, whole(name(1), "1"), "", whole(name(3), "3"))
	answers(t, "Drop again", v.Drop(name(2)), api.ErrNone)
	loose(t, "Drop again", d, 0, 4)
	d.Crash(0, 0)
	reads(t, "behind a crash", d, whole(name(1), "1"), "", whole(name(3), "3"))
	knows(t, "behind a crash", open(t, d), at{name(1), 0}, at{name(3), 2})
	answers(t, "Drop", v.Drop(name(1)), api.OK)
	answers(t, "Drop", v.Drop(name(3)), api.OK)
	knows(t, "all dropped", v)
	reads(t, "all dropped", d, "", "", "")
}

func TestDropSyncsAll(t *testing.T) {
	d, v := fresh(t, 3, 40)
	puts(t, v, name(1))
	answers(t, "Begin", v.Begin(name(2), []byte("two")), api.OK)
	answers(t, "Drop of an unknown one", v.Drop(name(3)), api.ErrNone)
	loose(t, "Drop with an error", d, 1, 1)
	answers(t, "Drop", v.Drop(name(1)), api.OK)
	loose(t, "Drop", d, 0, 2)
	d.Crash(0, 0)
	reads(t, "Drop", d, "", whole(name(2), "two"), "")
}

func TestDropOfWhatWasBegun(t *testing.T) {
	d, v := fresh(t, 2, 40)
	answers(t, "Begin", v.Begin(name(1), []byte("one")), api.OK)
	answers(t, "Drop", v.Drop(name(1)), api.OK)
	loose(t, "Drop", d, 0, 1)
	unknown(t, "Drop", v, name(1))
	d.Crash(9, 9)
	reads(t, "Drop", d, "", "")
}

// The cell is emptied, whatever stands in it.
func TestDropOfACellThatIsNotTheShard(t *testing.T) {
	for what, c := range noShards(name(1), "data") {
		d, v := fresh(t, 2, 60)
		puts(t, v, name(1), name(2))
		d.Write(0, []byte(c.cell))
		answers(t, what, v.Drop(name(1)), api.OK)
		reads(t, what, d, "", whole(name(2), "2"))
		loose(t, what, d, 0, 3)
		knows(t, what, v, at{name(2), 1})
	}
}

// A second one of the name is not known behind a Drop of the first one, until the disk is opened again.
func TestDropOfTheFirstOfTwo(t *testing.T) {
	a := name(1, 2, 3, 4)
	d := safe(t, 40, whole(a, "first"), whole(a, "second"))
	v := open(t, d)
	answers(t, "Drop", v.Drop(a), api.OK)
	knows(t, "Drop", v)
	unknown(t, "Drop", v, a)
	answers(t, "Drop again", v.Drop(a), api.ErrNone)
	reads(t, "Drop", d, "", whole(a, "second"))
	knows(t, "opened again", open(t, d), at{a, 1})
}

func TestPutOfADroppedOne(t *testing.T) {
	d, v := fresh(t, 2, 40)
	for i := range 5 {
		data := fmt.Sprint("the ", i)
		answers(t, "Put", v.Put(name(1), []byte(data)), api.OK)
		gets(t, "Put", v, name(1), data, api.OK)
		knows(t, "Put", v, at{name(1), 0})
		answers(t, "Drop", v.Drop(name(1)), api.OK)
		loose(t, "Drop", d, 0, 2*i+2)
	}
}

// Vaults that nobody made

func TestNilAndZeroVaults(t *testing.T) {
	for what, v := range map[string]*Vault{"nil": nil, "zero": {}} {
		for range 2 {
			knows(t, what, v)
			unknown(t, what, v, name(), name(1, 2, 3, 4))
			for _, data := range [][]byte{nil, []byte("data"), make([]byte, 1<<17)} {
				answers(t, what+": Begin", v.Begin(name(1), data), api.ErrNil)
				answers(t, what+": Put", v.Put(name(), data), api.ErrNil)
			}
			answers(t, what+": Drop", v.Drop(name()), api.ErrNil)
			answers(t, what+": Drop", v.Drop(name(1)), api.ErrNil)
		}
	}
}

// A disk that nobody made has no cells, and none that any frame fits in.
func TestOpenOfAZeroDisk(t *testing.T) {
	d := &platter.Disk{}
	v := open(t, d)
	knows(t, "zero disk", v)
	refuses(t, "zero disk", v, d, name(1), nil, api.ErrLong)
	answers(t, "Drop", v.Drop(name(1)), api.ErrNone)
}

// P12.4

// begun makes a disk whose first cell has those bytes, and begins a shard in it.
func begun(t *testing.T, had string, s api.Shard, data string) *platter.Disk {
	t.Helper()
	d := safe(t, 60, had, whole(name(77), "stays"))
	v := open(t, d)
	answers(t, "Begin", v.Begin(s, []byte(data)), api.OK)
	if v.Cell(s) != 0 {
		t.Fatal("begun in cell", v.Cell(s))
	}
	return d
}

func TestCrashBehindBegin(t *testing.T) {
	s, data := name(1, 2, 3, 4), "data"
	all := len(whole(s, data))
	had := map[string]string{
		"no bytes":               "",
		"shorter":                "some bytes",
		"as long":                string(bytes.Repeat([]byte{'x'}, all)),
		"longer":                 string(bytes.Repeat([]byte{'x'}, all+9)),
		"another kind":           frame(2, bare(s)+data),
		"a byte behind":          whole(s, data) + "x",
		"other data, spoilt":     whole(s, "atad")[:all-1] + "x",
		"another name, spoilt":   whole(name(1, 2, 3, 5), data)[:all-1] + "x",
		"the same, but its sum":  whole(s, data)[:8] + "summ" + whole(s, data)[12:],
		"the same, but its mark": "mk" + whole(s, data)[2:],
	}
	for what, h := range had {
		for _, c := range []struct{ keep, bytes int }{{-1, -1}, {0, -1}, {0, 0}} {
			d := begun(t, h, s, data)
			d.Crash(c.keep, c.bytes)
			reads(t, what+", none kept", d, h, whole(name(77), "stays"))
			knows(t, what+", none kept", open(t, d), at{name(77), 1})
		}
		for n := 1; n < all; n++ {
			d := begun(t, h, s, data)
			d.Crash(0, n)
			v := open(t, d)
			gets(t, what+", a part kept", v, name(77), "stays", api.OK)
			if string(d.Read(0)) == whole(s, data) { // what was there makes it whole
				gets(t, what+", a part kept", v, s, data, api.OK)
				continue
			}
			unknown(t, what+", a part kept", v, s)
			knows(t, what+", a part kept", v, at{name(77), 1})
		}
		for _, c := range []struct{ keep, bytes int }{{1, 0}, {1, -1}, {2, 5}, {math.MaxInt, 0}} {
			d := begun(t, h, s, data)
			d.Crash(c.keep, c.bytes)
			v := open(t, d)
			knows(t, what+", all kept", v, at{s, 0}, at{name(77), 1})
			gets(t, what+", all kept", v, s, data, api.OK)
		}
		for _, n := range []int{all, all + 1, math.MaxInt} {
			d := begun(t, h, s, data)
			d.Crash(0, n)
			v := open(t, d)
			if len(h) > all {
				unknown(t, what+", all bytes kept, and others behind", v, s)
				continue
			}
			gets(t, what+", all bytes kept", v, s, data, api.OK)
		}
	}
}

// What was put is there behind a crash, though another one is begun and lost.
func TestCrashBehindPut(t *testing.T) {
	for keep := -1; keep < 5; keep++ {
		for n := -1; n < 40; n++ {
			d, v := fresh(t, 6, 40)
			puts(t, v, name(1), name(2), name(3))
			answers(t, "Drop", v.Drop(name(2)), api.OK)
			for i := 4; i < 7; i++ {
				answers(t, "Begin", v.Begin(name(i), []byte(fmt.Sprint(i))), api.OK)
			}
			d.Crash(keep, n)
			want := []at{{name(1), 0}, {name(3), 2}}
			for i, cell := range []int{1, 3, 4} {
				if i < keep || i == max(keep, 0) && n >= 25 {
					want = append(want, at{name(i + 4), cell})
				}
			}
			what := fmt.Sprintf("Crash(%d, %d)", keep, n)
			w := open(t, d)
			knows(t, what, w, want...)
			for _, k := range want {
				gets(t, what, w, k.s, fmt.Sprint(k.s.Object), api.OK)
			}
		}
	}
}

// alike checks that two vaults know the same, and return the same.
func alike(t *testing.T, what string, a, b *Vault) {
	t.Helper()
	var want []at
	for _, s := range a.List() {
		want = append(want, at{s, a.Cell(s)})
		data, e := a.Get(s)
		gets(t, what, b, s, string(data), e)
	}
	knows(t, what, b, want...)
}

func TestOpeningTwice(t *testing.T) {
	d := safe(t, 40, "", whole(name(1), "one"), whole(name(2), "two"), whole(name(1), "again"), whole(name(3), "x")+"y", "rubbish")
	a := open(t, d)
	b := open(t, d)
	alike(t, "twice", a, b)
	alike(t, "thrice", a, open(t, d))
	knows(t, "the first one", a, at{name(1), 1}, at{name(2), 2})
	puts(t, b, name(4))
	unknown(t, "what another vault put", a, name(4))
	alike(t, "behind a Put", b, open(t, d))
	d.Crash(0, 0)
	alike(t, "behind a crash", b, open(t, d))
}

// Safe shards stay through any calls and crashes; those begun are whole or away.
func TestSafeThroughAnyCrash(t *testing.T) {
	for seed := range 200 {
		dc := dice(seed)
		d, v := fresh(t, 1+dc.below(8), 24+dc.below(10))
		kept, floating := map[api.Shard]string{}, map[api.Shard]string{}
		for range 40 {
			s := name(dc.below(3), dc.below(2), dc.below(2))
			data := dc.text(dc.below(10))
			switch dc.below(7) {
			case 0, 1, 2:
				if v.Begin(s, []byte(data)) == api.OK {
					floating[s] = data
				}
			case 3, 4:
				if v.Put(s, []byte(data)) == api.OK {
					floating[s] = data
					settle(kept, floating)
				}
			case 5:
				if v.Drop(s) == api.OK {
					settle(kept, floating)
					delete(kept, s)
				}
			case 6:
				d.Crash(dc.below(3), dc.below(40))
				v = open(t, d)
				survives(t, fmt.Sprint("seed ", seed), v, kept, floating)
			}
		}
	}
}

// settle makes safe what was floating.
func settle(kept, floating map[api.Shard]string) {
	for s, data := range floating {
		kept[s] = data
	}
	clear(floating)
}

// survives checks what a vault knows behind a crash, and makes that what is safe.
func survives(t *testing.T, what string, v *Vault, kept, floating map[api.Shard]string) {
	t.Helper()
	for s, data := range kept {
		gets(t, what, v, s, data, api.OK)
	}
	for s, data := range floating {
		if v.Has(s) {
			gets(t, what, v, s, data, api.OK)
			kept[s] = data
		}
	}
	clear(floating)
	if v.Len() != len(kept) {
		t.Errorf("%s: %v is known, want %d shards", what, v.List(), len(kept))
	}
}

// The chapter's example.
func TestSpoiltShard(t *testing.T) {
	d, v := fresh(t, 2, 40)
	answers(t, "Put", v.Put(name(1), []byte("one")), api.OK)
	answers(t, "Spoil", d.Spoil(0, 26, 8), api.OK)
	gets(t, "spoilt", v, name(1), "", api.ErrSum)
	knows(t, "opened again", open(t, d))
}

// All promises together

// model is a vault, the slow way: names and cells in two lists, and frames made by hand on a disk of its own.
type model struct {
	d     *platter.Disk
	names []api.Shard
	cells []int
}

// parse returns the name and the data of the shard that a cell is, found by making each frame again.
func parse(cell string) (api.Shard, string, bool) {
	if len(cell) < 24 {
		return api.Shard{}, "", false
	}
	b := []byte(cell[12:])
	s := api.Shard{
		Object: binary.LittleEndian.Uint32(b),
		Stripe: binary.LittleEndian.Uint16(b[4:]),
		Slot:   binary.LittleEndian.Uint16(b[6:]),
		Gen:    binary.LittleEndian.Uint32(b[8:]),
	}
	return s, cell[24:], whole(s, cell[24:]) == cell
}

func (m *model) open() {
	m.names, m.cells = nil, nil
	n, _ := m.d.Len()
	for i := range n {
		if s, _, ok := parse(string(m.d.Read(i))); ok && m.cell(s) < 0 {
			m.names, m.cells = append(m.names, s), append(m.cells, i)
		}
	}
}

func (m *model) cell(s api.Shard) int {
	for i, n := range m.names {
		if n.Object == s.Object && n.Stripe == s.Stripe && n.Slot == s.Slot && n.Gen == s.Gen {
			return m.cells[i]
		}
	}
	return -1
}

func (m *model) begin(s api.Shard, data string) api.Errno {
	n, size := m.d.Len()
	if m.cell(s) >= 0 {
		return api.ErrTwice
	}
	if len(data)+24 > size {
		return api.ErrLong
	}
	for i := range n {
		if !slices.Contains(m.cells, i) {
			m.names, m.cells = append(m.names, s), append(m.cells, i)
			return m.d.Write(i, []byte(whole(s, data)))
		}
	}
	return api.ErrFull
}

func (m *model) put(s api.Shard, data string) api.Errno {
	e := m.begin(s, data)
	if e == api.OK {
		e = m.d.Sync()
	}
	return e
}

func (m *model) drop(s api.Shard) api.Errno {
	for i, n := range m.names {
		if n == s {
			m.d.Write(m.cells[i], []byte{})
			m.names, m.cells = slices.Delete(m.names, i, i+1), slices.Delete(m.cells, i, i+1)
			return m.d.Sync()
		}
	}
	return api.ErrNone
}

// get leaves it open which of its two errors a cell has that is no shard.
func (m *model) get(s api.Shard) (data string, found, ok bool) {
	i := m.cell(s)
	if i < 0 {
		return "", false, false
	}
	n, data, whole := parse(string(m.d.Read(i)))
	if !whole || n != s {
		return "", true, false
	}
	return data, true, true
}

// same checks a vault against the model.
func same(t *testing.T, what string, v *Vault, d *platter.Disk, m *model) {
	t.Helper()
	var want []at
	for i, s := range m.names {
		want = append(want, at{s, m.cells[i]})
		data, _, ok := m.get(s)
		b, e := v.Get(s)
		if ok != (e == api.OK) || string(b) != data || !ok && e != api.ErrForm && e != api.ErrSum {
			t.Errorf("%s: Get of %v is %q, error %d; want %q, %v", what, s, b, e, data, ok)
		}
	}
	knows(t, what, v, want...)
	n, _ := m.d.Len()
	var cells []string
	for i := range n {
		cells = append(cells, string(m.d.Read(i)))
	}
	reads(t, what, d, cells...)
	writes, syncs := m.d.Loose()
	loose(t, what, d, writes, syncs)
}

// both does to two disks what happens to disks behind the back of a vault.
func both(dc *dice, s api.Shard, data string, a, b *platter.Disk) {
	n, size := a.Len()
	cell, at, bits := dc.below(n), dc.below(size), byte(1<<dc.below(8))
	bytes := []string{whole(s, data), frame(2, bare(s)+data), frame(1, data), whole(s, data) + "x", data}[dc.below(5)]
	keep, part := dc.below(4), dc.below(size+1)
	what := dc.below(6)
	for _, d := range []*platter.Disk{a, b} {
		switch what {
		case 0:
			d.Spoil(cell, at, bits)
		case 1:
			d.Wipe(cell)
		case 2, 3:
			d.Write(cell, []byte(bytes))
		case 4:
			d.Crash(keep, part)
		case 5:
			d.Sync()
		}
	}
}

func TestAnyCallsInAnyOrder(t *testing.T) {
	for seed := range 300 {
		dc := dice(seed)
		cells, size := 1+dc.below(6), 20+dc.below(30)
		d, v := fresh(t, cells, size)
		m := &model{d: disk(t, cells, size)}
		for i := range 60 {
			s := name(dc.below(2), dc.below(2), dc.below(2), dc.below(2))
			data := dc.text(dc.below(20))
			what := fmt.Sprintf("seed %d, call %d, %v, %q", seed, i, s, data)
			switch dc.below(6) {
			case 0:
				answers(t, what+", Begin", v.Begin(s, []byte(data)), m.begin(s, data))
			case 1, 2:
				answers(t, what+", Put", v.Put(s, []byte(data)), m.put(s, data))
			case 3:
				answers(t, what+", Drop", v.Drop(s), m.drop(s))
			case 4:
				both(&dc, s, data, d, m.d)
			case 5:
				if dc.below(3) == 0 {
					v = open(t, d)
					m.open()
				}
			}
			if m.cell(s) < 0 {
				unknown(t, what, v, s)
			}
			same(t, what, v, d, m)
			if t.Failed() {
				return
			}
		}
	}
}

// Determinism

// What is told hangs on the calls alone, and not on the order of a map.
func TestManyNamesTwice(t *testing.T) {
	run := func() (*platter.Disk, *Vault, string) {
		dc := dice(3)
		d, v := fresh(t, 300, 40)
		var told []byte
		for range 1500 {
			s := api.Shard{Object: uint32(dc.below(40)), Stripe: uint16(dc.below(4)), Slot: uint16(dc.below(4))}
			e := v.Begin(s, []byte{byte(s.Object)})
			if e == api.ErrTwice {
				e = v.Drop(s)
			}
			told = fmt.Append(told, e, v.Cell(s), v.Len(), ",")
		}
		return d, v, string(fmt.Append(told, v.List()))
	}
	d, v, told := run()
	if v.Len() < 200 {
		t.Fatal("only", v.Len(), "names")
	}
	first := v.List()
	for range 10 {
		e, w, again := run()
		if again != told {
			t.Error("another run tells something else")
		}
		alike(t, "another run", v, w)
		for i := range 300 {
			if !bytes.Equal(d.Read(i), e.Read(i)) {
				t.Errorf("cell %d of another run", i)
			}
		}
		alike(t, "opened again", v, open(t, e))
		if !slices.Equal(v.List(), first) || !slices.IsSortedFunc(first, slowCompare) {
			t.Error("List")
		}
	}
}

// The first cell is chosen, however many names there are.
func TestFirstCellOfMany(t *testing.T) {
	_, v := fresh(t, 500, 24)
	for i := range 500 {
		answers(t, "Begin", v.Begin(name(i), nil), api.OK)
		if v.Cell(name(i)) != i {
			t.Fatalf("shard %d is in cell %d", i, v.Cell(name(i)))
		}
	}
	for _, i := range []int{499, 250, 0, 137, 138} {
		answers(t, "Drop", v.Drop(name(i)), api.OK)
	}
	for i, cell := range []int{0, 137, 138, 250, 499} {
		answers(t, "Begin", v.Begin(name(0, 1, i), nil), api.OK)
		if got := v.Cell(name(0, 1, i)); got != cell {
			t.Errorf("cell %d, want %d", got, cell)
		}
	}
}

// Memory

func TestDataMayBeChangedLater(t *testing.T) {
	d, v := fresh(t, 2, 40)
	room := []byte("one two and more")
	answers(t, "Begin", v.Begin(name(1), room[:3]), api.OK)
	answers(t, "Put", v.Put(name(2), room[4:7]), api.OK)
	if string(room) != "one two and more" {
		t.Errorf("the data is now %q", room)
	}
	clear(room)
	gets(t, "changed", v, name(1), "one", api.OK)
	gets(t, "changed", v, name(2), "two", api.OK)
	reads(t, "changed", d, whole(name(1), "one"), whole(name(2), "two"))
}

func TestDataIsNotChanged(t *testing.T) {
	d, v := fresh(t, 3, 40)
	room := []byte("one two and more")
	a, b := room[:3], room[4:7]
	v.Begin(name(1), a)
	v.Put(name(2), b)
	refuses(t, "twice", v, d, name(2), room[:9], api.ErrTwice)
	v.Put(name(3), room)
	refuses(t, "full", v, d, name(4), room[:9], api.ErrFull)
	refuses(t, "long", v, d, name(4), make([]byte, 17), api.ErrLong)
	for _, s := range v.List() {
		v.Get(s)
		v.Drop(s)
	}
	v.Put(name(5), []byte("five"))
	d.Spoil(0, 25, 255)
	d.Crash(0, 0)
	if string(room) != "one two and more" {
		t.Errorf("the data is now %q", room)
	}
}

func TestWhatGetReturnsIsIndependent(t *testing.T) {
	d, v := fresh(t, 2, 40)
	answers(t, "Begin", v.Begin(name(1), []byte("loose")), api.OK)
	for _, what := range []string{"loose", "safe"} {
		a, _ := v.Get(name(1))
		b, _ := v.Get(name(1))
		clear(a[:cap(a)])
		if string(b) != "loose" {
			t.Errorf("%s: the other one is %q", what, b)
		}
		_ = append(b, "more"...)
		b[0] = 'L'
		gets(t, what, v, name(1), "loose", api.OK)
		if got := string(d.Read(0)); got != whole(name(1), "loose") {
			t.Errorf("%s: the cell reads %x", what, got)
		}
		a, _ = v.Get(name(1))
		d.Sync()
		v.Put(name(2), []byte("other"))
		if string(a) != "loose" {
			t.Errorf("%s: later it is %q", what, a)
		}
	}
	a, _ := v.Get(name(1))
	d.Spoil(0, 25, 255)
	v.Drop(name(1))
	v.Put(name(3), []byte("LOOSE"))
	if string(a) != "loose" {
		t.Errorf("behind a Drop it is %q", a)
	}
}

func TestWhatListReturnsIsIndependent(t *testing.T) {
	_, v := fresh(t, 6, 40)
	puts(t, v, name(3), name(1), name(2))
	want := []at{{name(3), 0}, {name(1), 1}, {name(2), 2}}
	a, b := v.List(), v.List()
	clear(a[:cap(a)])
	knows(t, "changed", v, want...)
	if !slices.Equal(b, []api.Shard{name(1), name(2), name(3)}) {
		t.Error("the other one is", b)
	}
	_ = append(b, name(9))
	knows(t, "appended", v, want...)
	puts(t, v, name(0))
	v.Drop(name(2))
	if !slices.Equal(b, []api.Shard{name(1), name(2), name(3)}) {
		t.Error("later it is", b)
	}
}

// The disk is retained: the vault sees what happens to it, and two vaults write to one disk.
func TestTheDiskIsRetained(t *testing.T) {
	d, v := fresh(t, 3, 40)
	w := open(t, d)
	puts(t, v, name(1))
	unknown(t, "the other vault", w, name(1))
	puts(t, w, name(2))
	knows(t, "the other vault", w, at{name(2), 0})
	gets(t, "written over", v, name(1), "", api.ErrForm)
	gets(t, "written", w, name(2), "2", api.OK)
	loose(t, "two vaults", d, 0, 2)
}
