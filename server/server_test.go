package server

import (
	"encoding/binary"
	"fmt"
	"hash/crc32"
	"math"
	"slices"
	"strings"
	"testing"

	"coldframe/api"
	"coldframe/msr"
	"coldframe/platter"
	"coldframe/vault"
	"coldframe/wire"
)

// dice makes numbers that look as if they were random; the seed tells which.
type dice uint64

// below returns a number from 0 to n - 1.
func (d *dice) below(n int) int {
	*d = *d*6364136223846793005 + 1442695040888963407
	return int(*d>>33) % n
}

// text makes n bytes.
func (d *dice) text(n int) string {
	b := make([]byte, n)
	for i := range b {
		b[i] = byte(d.below(256))
	}
	return string(b)
}

// name makes the name of a shard from its numbers, of which those that are missing are 0.
func name(n ...int) api.Shard {
	n = append(n, make([]int, 4)...)
	return api.Shard{Object: uint32(n[0]), Stripe: uint16(n[1]), Slot: uint16(n[2]), Gen: uint32(n[3])}
}

// bare makes the bytes of a name by hand.
func bare(s api.Shard) string {
	b := binary.LittleEndian.AppendUint32(nil, s.Object)
	b = binary.LittleEndian.AppendUint16(b, s.Stripe)
	b = binary.LittleEndian.AppendUint16(b, s.Slot)
	return string(binary.LittleEndian.AppendUint32(b, s.Gen))
}

// frame makes a frame by hand.
func frame(kind int, load string) string {
	b := []byte{0x1D, 0xCF}
	b = binary.LittleEndian.AppendUint16(b, uint16(kind))
	b = binary.LittleEndian.AppendUint32(b, uint32(len(load)))
	sum := crc32.Checksum([]byte(string(b)+load), crc32.MakeTable(crc32.Castagnoli))
	return string(binary.LittleEndian.AppendUint32(b, sum)) + load
}

// whole makes by hand what a cell has in which a shard stands.
func whole(s api.Shard, data string) string {
	return frame(1, bare(s)+data)
}

// asked makes the bytes of a request by hand, of one that is not right, too.
func asked(kind int, num uint64, s api.Shard, lost int, data string) string {
	b := []byte{byte(kind)}
	b = binary.LittleEndian.AppendUint64(b, num)
	b = append(b, bare(s)...)
	b = binary.LittleEndian.AppendUint16(b, uint16(lost))
	return string(b) + data
}

// The requests of each kind.
func ping(num uint64) string                          { return asked(1, num, name(), 0, "") }
func put(num uint64, s api.Shard, data string) string { return asked(2, num, s, 0, data) }
func get(num uint64, s api.Shard) string              { return asked(3, num, s, 0, "") }
func help(num uint64, s api.Shard, lost int) string   { return asked(4, num, s, lost, "") }
func drop(num uint64, s api.Shard) string             { return asked(5, num, s, 0, "") }
func check(num uint64, s api.Shard) string            { return asked(6, num, s, 0, "") }

// reply makes the bytes of a reply by hand.
func reply(num uint64, e api.Errno, data string) string {
	b := binary.LittleEndian.AppendUint64(nil, num)
	return string(append(b, byte(e))) + data
}

// code makes a code.
func code(t *testing.T, n, k int) *msr.Code {
	t.Helper()
	c, e := msr.New(n, k)
	if e != api.OK {
		t.Fatalf("msr.New(%d, %d): error %d", n, k, e)
	}
	return c
}

// disk makes a disk.
func disk(t *testing.T, cells, size int) *platter.Disk {
	t.Helper()
	d, e := platter.New(cells, size)
	if e != api.OK {
		t.Fatalf("platter.New(%d, %d): error %d", cells, size, e)
	}
	return d
}

// safe makes a disk that has these cells, of at most size bytes, without loose writes. It has synced once.
func safe(t *testing.T, size int, cells ...string) *platter.Disk {
	t.Helper()
	d := disk(t, len(cells), size)
	for i, c := range cells {
		answers(t, "Write", d.Write(i, []byte(c)), api.OK)
	}
	answers(t, "Sync", d.Sync(), api.OK)
	return d
}

// on makes a node over a disk, with a code of 5 shards of 2 parts, of which 3 suffice.
func on(t *testing.T, d *platter.Disk) *Server {
	t.Helper()
	s, e := New(code(t, 5, 3), d)
	if e != api.OK || s == nil {
		t.Fatalf("New: %v, error %d", s, e)
	}
	return s
}

// fresh makes a node over a disk without bytes.
func fresh(t *testing.T, cells, size int) (*platter.Disk, *Server) {
	t.Helper()
	d := disk(t, cells, size)
	return d, on(t, d)
}

// answers checks an error.
func answers(t *testing.T, what string, e, want api.Errno) {
	t.Helper()
	if e != want {
		t.Errorf("%s: error %d, want %d", what, e, want)
	}
}

// replies checks what a node answers to a request.
func replies(t *testing.T, what string, s *Server, request, want string) {
	t.Helper()
	if got := string(s.Handle([]byte(request))); got != want {
		t.Errorf("%s: Handle of %.40q is %.60q, want %.60q", what, request, got, want)
	}
}

// puts lets a node put shards, numbered from num on, and wants no error.
func puts(t *testing.T, s *Server, num uint64, names ...api.Shard) {
	t.Helper()
	for i, n := range names {
		replies(t, "Put", s, put(num+uint64(i), n, "abcd"), reply(num+uint64(i), api.OK, ""))
	}
}

// fills lets a node remember n replies, numbered from num on.
func fills(t *testing.T, s *Server, num uint64, n int) {
	t.Helper()
	for i := range uint64(n) {
		replies(t, "Drop", s, drop(num+i, name(99, 99, 99)), reply(num+i, api.ErrNone, ""))
	}
}

// did checks how many requests a node did.
func did(t *testing.T, what string, s *Server, want uint64) {
	t.Helper()
	if got := s.Done(); got != want {
		t.Errorf("%s: Done is %d, want %d", what, got, want)
	}
}

// reads checks what is read of all cells.
func reads(t *testing.T, what string, d *platter.Disk, want ...string) {
	t.Helper()
	for i, w := range want {
		if got := string(d.Read(i)); got != w {
			t.Errorf("%s: cell %d reads %x, want %x", what, i, got, w)
		}
	}
	if n, _ := d.Len(); n != len(want) {
		t.Errorf("%s: %d cells, want %d", what, n, len(want))
	}
}

// cells are what is read of all cells of a disk.
func cells(d *platter.Disk) []string {
	n, _ := d.Len()
	var l []string
	for i := range n {
		l = append(l, string(d.Read(i)))
	}
	return l
}

// loose checks how many writes are loose, and how many Syncs there were.
func loose(t *testing.T, what string, d *platter.Disk, writes, syncs int) {
	t.Helper()
	if w, s := d.Loose(); w != writes || s != syncs {
		t.Errorf("%s: %d loose writes, %d Syncs; want %d, %d", what, w, s, writes, syncs)
	}
}

// at is a name, and the cell in which a node is to have it.
type at struct {
	s    api.Shard
	cell int
}

// knows checks what a node's vault knows, and that it is these shards alone.
func knows(t *testing.T, what string, s *Server, want ...at) {
	t.Helper()
	v := s.Vault()
	var names []api.Shard
	for _, w := range want {
		names = append(names, w.s)
		if got := v.Cell(w.s); got != w.cell {
			t.Errorf("%s: %v is in cell %d, want %d", what, w.s, got, w.cell)
		}
	}
	slices.SortFunc(names, vault.Compare)
	if got := v.List(); !slices.Equal(got, names) {
		t.Errorf("%s: List is %v, want %v", what, got, names)
	}
}

// remembers checks that a node remembers the reply to a Put or a Drop of this Num: it answers it to both, whatever they are
// about, and nothing is done.
func remembers(t *testing.T, what string, s *Server, num uint64, e api.Errno) {
	t.Helper()
	n, before, known := s.Done(), cells(s.Disk()), s.Vault().List()
	writes, syncs := s.Disk().Loose()
	again := []string{put(num, name(77, 7, 7, 7), "zz"), drop(num, name(77, 7, 7, 7))}
	for _, k := range known {
		again = append(again, put(num, k, ""), drop(num, k))
	}
	for _, q := range again {
		replies(t, what, s, q, reply(num, e, ""))
	}
	did(t, what, s, n)
	reads(t, what, s.Disk(), before...)
	loose(t, what, s.Disk(), writes, syncs)
	if l := s.Vault().List(); !slices.Equal(l, known) {
		t.Errorf("%s: List is %v, was %v", what, l, known)
	}
}

// forgot checks that a node remembers no reply of this Num: a Drop of what is not there is done. From then on it is
// remembered.
func forgot(t *testing.T, what string, s *Server, num uint64) {
	t.Helper()
	n := s.Done()
	replies(t, what, s, drop(num, name(98, 98, 98)), reply(num, api.ErrNone, ""))
	did(t, what, s, n+1)
}

// crashes are arguments of Crash: 0, 1, some, more than there is, and below 0.
var crashes = []int{math.MinInt, -1 << 32, -2, -1, 0, 1, 2, 3, 5, 11, 12, 23, 24, 25, 27, 28, 29, 60, 61, 4096, 1 << 32, math.MaxInt}

// P16.1

func TestMost(t *testing.T) {
	if Most != 32 {
		t.Errorf("Most is %d, want 32", Most)
	}
}

func TestNewOfNil(t *testing.T) {
	c, d := code(t, 5, 3), safe(t, 40, whole(name(1), "a"), "")
	answers(t, "Write", d.Write(1, []byte("loose")), api.OK)
	for _, x := range []struct {
		c *msr.Code
		d *platter.Disk
	}{{nil, d}, {c, nil}, {nil, nil}} {
		s, e := New(x.c, x.d)
		if s != nil || e != api.ErrNil {
			t.Errorf("New(%v, %v): %v, error %d; want nil, %d", x.c, x.d, s, e, api.ErrNil)
		}
	}
	reads(t, "New of a nil code", d, whole(name(1), "a"), "loose")
	loose(t, "New of a nil code", d, 1, 1)
}

func TestNewOverADiskWithoutBytes(t *testing.T) {
	d, s := fresh(t, 3, 40)
	if s.Disk() != d {
		t.Error("the disk is another one")
	}
	knows(t, "a new node", s)
	did(t, "a new node", s, 0)
	reads(t, "a new node", d, "", "", "")
	loose(t, "a new node", d, 0, 0)
}

func TestNewRemembersNothing(t *testing.T) {
	for _, num := range []uint64{0, 1, 2, 31, 32, 33, 1 << 32, math.MaxUint64} {
		d, s := fresh(t, 1, 40)
		replies(t, "the first Put", s, put(num, name(1), "abcd"), reply(num, api.OK, ""))
		reads(t, "the first Put", d, whole(name(1), "abcd"))
		did(t, "the first Put", s, 1)

		d = safe(t, 40, whole(name(1), "abcd"))
		s = on(t, d)
		replies(t, "the first Drop", s, drop(num, name(1)), reply(num, api.OK, ""))
		reads(t, "the first Drop", d, "")
		did(t, "the first Drop", s, 1)
	}
}

func TestNewOverADiskWithShards(t *testing.T) {
	one, two := whole(name(1), "abcd"), whole(name(2, 3, 4, 5), "")
	spoilt := []byte(whole(name(6), "abcd"))
	spoilt[26] ^= 1
	l := []string{
		"junk",
		one[:27], // torn
		one,
		string(spoilt),
		two,
		one + "x",               // more than a shard
		whole(name(1), "other"), // of a name that is there
		frame(2, bare(name(7))), // of another kind
		frame(1, "short"),       // of too few bytes
		"",
		whole(name(0, 0, 0, 1), "ef"),
	}
	d := safe(t, 60, l...)
	s := on(t, d)
	knows(t, "New", s, at{name(1), 2}, at{name(2, 3, 4, 5), 4}, at{name(0, 0, 0, 1), 10})
	reads(t, "New", d, l...)
	loose(t, "New", d, 0, 1)
	did(t, "New", s, 0)
	replies(t, "the first of two", s, get(1, name(1)), reply(1, api.OK, "abcd"))
	replies(t, "a shard without data", s, get(2, name(2, 3, 4, 5)), reply(2, api.OK, ""))
	replies(t, "the last cell", s, get(3, name(0, 0, 0, 1)), reply(3, api.OK, "ef"))
	replies(t, "a spoilt one", s, get(4, name(6)), reply(4, api.ErrNone, ""))
	replies(t, "another kind", s, get(5, name(7)), reply(5, api.ErrNone, ""))
	replies(t, "the first free cell", s, put(6, name(8), "gh"), reply(6, api.OK, ""))
	l[0] = whole(name(8), "gh")
	reads(t, "the first free cell", d, l...)
	knows(t, "Put", s, at{name(8), 0}, at{name(1), 2}, at{name(2, 3, 4, 5), 4}, at{name(0, 0, 0, 1), 10})
}

func TestNewOverADiskWithoutShards(t *testing.T) {
	l := []string{"junk", whole(name(1), "abcd")[:27], "", frame(2, bare(name(1)))}
	d := safe(t, 40, l...)
	answers(t, "Write", d.Write(2, []byte("loose")), api.OK)
	l[2] = "loose"
	s := on(t, d)
	knows(t, "New", s)
	reads(t, "New", d, l...)
	loose(t, "New", d, 1, 1)
	s.Restart(1, 0)
	knows(t, "Restart", s)
	reads(t, "Restart", d, l...)
	loose(t, "Restart", d, 0, 1)
	puts(t, s, 1, name(1), name(2), name(3), name(4))
	replies(t, "full", s, put(5, name(5), ""), reply(5, api.ErrFull, ""))
}

func TestNewReadsLooseWrites(t *testing.T) {
	d := safe(t, 40, whole(name(1), "a"), "")
	answers(t, "Write", d.Write(0, []byte(whole(name(2), "b"))), api.OK)
	s := on(t, d)
	knows(t, "New", s, at{name(2), 0})
	loose(t, "New", d, 1, 1)
	s.Restart(0, 0)
	knows(t, "Restart", s, at{name(1), 0})
	loose(t, "Restart", d, 0, 1)
}

func TestVaultAndDisk(t *testing.T) {
	d, s := fresh(t, 3, 40)
	v := s.Vault()
	if v == nil || s.Vault() != v || s.Disk() != d || s.Disk() != d {
		t.Error("Vault or Disk are not the same twice")
	}
	puts(t, s, 1, name(1), name(2))
	replies(t, "Drop", s, drop(3, name(1)), reply(3, api.OK, ""))
	if s.Vault() != v || s.Disk() != d {
		t.Error("Vault or Disk are others behind a Put and a Drop")
	}
	if v.Len() != 1 || v.Cell(name(2)) != 1 || v.Has(name(1)) {
		t.Errorf("the vault knows %v", v.List())
	}
	if b, e := v.Get(name(2)); e != api.OK || string(b) != "abcd" {
		t.Errorf("the vault's Get: %q, error %d", b, e)
	}
	reads(t, "the disk", d, "", whole(name(2), "abcd"), "")
	s.Vault()
	s.Disk()
	s.Done()
	did(t, "Vault, Disk and Done", s, 3)
	remembers(t, "Vault, Disk and Done", s, 1, api.OK)
}

func TestVaultBehindRestart(t *testing.T) {
	d, s := fresh(t, 3, 40)
	puts(t, s, 1, name(1))
	answers(t, "Write", d.Write(1, []byte(whole(name(2), "efgh"))), api.OK)
	answers(t, "Sync", d.Sync(), api.OK)
	knows(t, "ahead of Restart", s, at{name(1), 0})
	s.Restart(0, 0)
	knows(t, "behind Restart", s, at{name(1), 0}, at{name(2), 1})
	if s.Disk() != d {
		t.Error("the disk is another one")
	}
	v := s.Vault()
	puts(t, s, 3, name(3))
	if s.Vault() != v || v.Cell(name(3)) != 2 {
		t.Error("the vault behind Restart is not the one that answers")
	}
}

func TestDone(t *testing.T) {
	_, s := fresh(t, 1, 40)
	for i, q := range []string{
		ping(1), put(2, name(1), "abcd"), get(3, name(1)), help(4, name(1), 0), check(5, name(1)), drop(6, name(1)),
		// and with errors
		put(7, name(1), strings.Repeat("x", 40)), get(8, name(1)), help(9, name(1), 0), help(10, name(1), 9), check(11, name(1)), drop(12, name(1)),
		// and with numbers that were there
		ping(1), ping(2), ping(2), get(2, name(1)), get(2, name(1)), help(2, name(1), 1), check(2, name(1)), check(6, name(1)),
	} {
		did(t, fmt.Sprintf("ahead of %q", q), s, uint64(i))
		if len(s.Handle([]byte(q))) == 0 {
			t.Errorf("no answer to %q", q)
		}
		did(t, fmt.Sprintf("behind %q", q), s, uint64(i+1))
	}
	for _, q := range []string{"", "junk", put(2, name(1), "abcd"), drop(6, name(1)), put(7, name(1), ""), drop(12, name(5)), put(6, name(4), "abcd")} {
		s.Handle([]byte(q))
		did(t, fmt.Sprintf("%q, which is not done", q), s, 20)
	}
	s.Handle(nil)
	did(t, "nil", s, 20)
}

func TestDoneOfMany(t *testing.T) {
	_, s := fresh(t, 1, 40)
	for i := range 1000 {
		s.Handle([]byte(ping(1)))
		did(t, "Pings", s, uint64(i+1))
	}
}

func TestNodesAreApart(t *testing.T) {
	c, d, e := code(t, 5, 3), disk(t, 2, 40), disk(t, 2, 40)
	one, _ := New(c, d)
	two, _ := New(c, e)
	replies(t, "one", one, put(1, name(1), "abcd"), reply(1, api.OK, ""))
	did(t, "two", two, 0)
	knows(t, "two", two)
	reads(t, "two", e, "", "")
	replies(t, "two", two, get(1, name(1)), reply(1, api.ErrNone, ""))
	replies(t, "two", two, drop(1, name(1)), reply(1, api.ErrNone, ""))
	remembers(t, "one", one, 1, api.OK)
	remembers(t, "two", two, 1, api.ErrNone)
	two.Restart(0, 0)
	did(t, "one", one, 1)
	remembers(t, "one", one, 1, api.OK)
	if one.Vault() == two.Vault() || one.Disk() == two.Disk() {
		t.Error("two nodes have one vault or disk")
	}
}

func TestRestartWithoutLooseWrites(t *testing.T) {
	for _, keep := range crashes {
		for _, bytes := range []int{math.MinInt, -1, 0, 1, 28, math.MaxInt} {
			what := fmt.Sprintf("Restart(%d, %d)", keep, bytes)
			d, s := fresh(t, 3, 40)
			puts(t, s, 1, name(1), name(2))
			s.Handle([]byte(ping(3)))
			did(t, what, s, 3)
			s.Restart(keep, bytes)
			did(t, what, s, 0)
			reads(t, what, d, whole(name(1), "abcd"), whole(name(2), "abcd"), "")
			loose(t, what, d, 0, 2)
			knows(t, what, s, at{name(1), 0}, at{name(2), 1})
			replies(t, what, s, put(1, name(1), "abcd"), reply(1, api.ErrTwice, ""))
			did(t, what, s, 1)
			replies(t, what, s, get(2, name(2)), reply(2, api.OK, "abcd"))
			did(t, what, s, 2)
		}
	}
}

// twoLoose makes a node over a disk of three cells, of which the first two have shards, and on which three writes are
// loose: other shards in these cells, and one in the third.
func twoLoose(t *testing.T) (*platter.Disk, *Server) {
	t.Helper()
	d := safe(t, 60, whole(name(1), "abcd"), whole(name(2), "efgh"), "")
	s := on(t, d)
	for i, n := range []api.Shard{name(3), name(4), name(5)} {
		answers(t, "Write", d.Write(i, []byte(whole(n, "new!"))), api.OK)
	}
	return d, s
}

func TestRestartWithLooseWrites(t *testing.T) {
	old := []string{whole(name(1), "abcd"), whole(name(2), "efgh"), ""}
	was := []api.Shard{name(1), name(2), {}}
	for _, keep := range crashes {
		for _, bytes := range crashes {
			what := fmt.Sprintf("Restart(%d, %d)", keep, bytes)
			d, s := twoLoose(t)
			s.Restart(keep, bytes)
			var want []string
			var known []at
			for i, n := range []api.Shard{name(3), name(4), name(5)} {
				w := whole(n, "new!")
				part := min(max(bytes, 0), 28)
				switch {
				case i < keep:
					want, known = append(want, w), append(known, at{n, i})
					continue
				case i > max(keep, 0):
					part = 0
				}
				cell := w[:part]
				if part < len(old[i]) {
					cell += old[i][part:]
				}
				want = append(want, cell)
				switch cell {
				case w:
					known = append(known, at{n, i})
				case old[i]:
					if was[i] != (api.Shard{}) {
						known = append(known, at{was[i], i})
					}
				}
			}
			reads(t, what, d, want...)
			loose(t, what, d, 0, 1)
			knows(t, what, s, known...)
			did(t, what, s, 0)
		}
	}
}

func TestRestartForgets(t *testing.T) {
	_, s := fresh(t, 40, 40)
	for i := range uint64(Most + 8) {
		puts(t, s, i, name(int(i)))
	}
	s.Restart(0, 0)
	did(t, "Restart", s, 0)
	for i := range uint64(Most + 8) {
		replies(t, "behind Restart", s, put(i, name(int(i)), "abcd"), reply(i, api.ErrTwice, ""))
		did(t, "behind Restart", s, i+1)
	}
	for i := range uint64(Most) {
		remembers(t, "again", s, i+8, api.ErrTwice)
	}
	s.Restart(0, 0)
	for i := range uint64(Most + 8) {
		forgot(t, "behind another Restart", s, i)
	}
}

func TestRestartTwice(t *testing.T) {
	d, s := twoLoose(t)
	s.Restart(1, 15)
	before, known := cells(d), s.Vault().List()
	s.Restart(1, 15)
	s.Restart(3, 28)
	reads(t, "Restart again", d, before...)
	if l := s.Vault().List(); !slices.Equal(l, known) || len(l) != 1 {
		t.Errorf("List is %v, was %v", l, known)
	}
	did(t, "Restart again", s, 0)
}

// The vault behind Restart knows what stands on the disk, and nothing of what the vault ahead of it knew.
func TestRestartFindsWhatIsOnTheDisk(t *testing.T) {
	d, s := fresh(t, 4, 40)
	puts(t, s, 1, name(1), name(2), name(3))
	answers(t, "Spoil", d.Spoil(0, 26, 1), api.OK)
	answers(t, "Wipe", d.Wipe(1), api.OK)
	answers(t, "Write", d.Write(3, []byte(whole(name(4), "efgh"))), api.OK)
	answers(t, "Sync", d.Sync(), api.OK)
	knows(t, "ahead of Restart", s, at{name(1), 0}, at{name(2), 1}, at{name(3), 2})
	s.Restart(0, 0)
	knows(t, "behind Restart", s, at{name(3), 2}, at{name(4), 3})
	replies(t, "spoilt", s, get(1, name(1)), reply(1, api.ErrNone, ""))
	replies(t, "wiped", s, get(2, name(2)), reply(2, api.ErrNone, ""))
	replies(t, "left", s, get(3, name(3)), reply(3, api.OK, "abcd"))
	replies(t, "new", s, get(4, name(4)), reply(4, api.OK, "efgh"))
	replies(t, "Put again", s, put(1, name(1), "abcd"), reply(1, api.OK, ""))
	knows(t, "Put again", s, at{name(1), 0}, at{name(3), 2}, at{name(4), 3})
	if d.Spoil(2, 26, 1); s.Vault().Len() != 3 {
		t.Error("a spoilt cell changes what the vault knows")
	}
}

// Behind Restart the code is still there.
func TestRestartKeepsTheCode(t *testing.T) {
	_, s := fresh(t, 1, 40)
	puts(t, s, 1, name(1))
	s.Restart(0, 0)
	replies(t, "behind Restart", s, help(1, name(1), 2), reply(1, api.OK, "\xA7\xAA"))
	replies(t, "behind Restart", s, help(1, name(1), 5), reply(1, api.ErrArg, ""))
}

// P16.2

// noRequests are bytes that are no request.
func noRequests() []string {
	l := []string{"", "a", "junk", strings.Repeat("\x00", 23), strings.Repeat("\xFF", 23), strings.Repeat("\x07", 30)}
	for _, q := range []string{ping(1), put(1, name(1), "abcd"), get(1, name(1)), help(1, name(1), 2), drop(1, name(1)), check(1, name(1))} {
		for n := range 23 {
			l = append(l, q[:n], q[23-n:23])
		}
	}
	for _, kind := range []int{0, 7, 8, 127, 128, 130, 255} {
		l = append(l, asked(kind, 1, name(1), 0, ""), asked(kind, 1, name(1), 0, "abcd"))
	}
	for _, kind := range []int{1, 3, 4, 5, 6} {
		l = append(l, asked(kind, 1, name(1), 0, "a"), asked(kind, 1, name(1), 0, "abcd"))
	}
	for _, kind := range []int{1, 2, 3, 5, 6} {
		l = append(l, asked(kind, 1, name(1), 1, ""), asked(kind, 1, name(1), 256, ""), asked(kind, 1, name(1), 65535, ""))
	}
	return append(l, asked(2, 1, name(1), 1, "abcd"), reply(1, 0, ""), reply(1, 0, "abcd"))
}

func TestHandleOfNoRequest(t *testing.T) {
	d, s := fresh(t, 2, 40)
	puts(t, s, 1, name(1))
	s.Handle([]byte(drop(2, name(9))))
	for _, q := range noRequests() {
		replies(t, "no request", s, q, "")
	}
	if b := s.Handle(nil); len(b) > 0 {
		t.Errorf("Handle of nil is %q", b)
	}
	did(t, "no request", s, 2)
	knows(t, "no request", s, at{name(1), 0})
	reads(t, "no request", d, whole(name(1), "abcd"), "")
	loose(t, "no request", d, 0, 1)
	remembers(t, "no request", s, 1, api.OK)
	remembers(t, "no request", s, 2, api.ErrNone)
}

func TestHandleOfNoRequestByANewNode(t *testing.T) {
	d, s := fresh(t, 2, 40)
	for _, q := range noRequests() {
		replies(t, "no request", s, q, "")
		did(t, "no request", s, 0)
	}
	knows(t, "no request", s)
	reads(t, "no request", d, "", "")
	loose(t, "no request", d, 0, 0)
}

// nums are numbers of requests, among them some whose lower or upper bytes are those of others.
var nums = []uint64{0, 1, 2, 255, 256, 257, 65536, 1 << 32, 1<<32 + 1, 1 << 56, 1<<63 + 1, math.MaxUint64 - 1, math.MaxUint64}

func TestRepliesHaveTheNumOfTheRequest(t *testing.T) {
	_, s := fresh(t, 40, 40)
	for i, num := range nums {
		n := name(i)
		replies(t, "Ping", s, ping(num), reply(num, api.OK, ""))
		replies(t, "Put", s, put(num, n, "abcd"), reply(num, api.OK, ""))
		replies(t, "Get", s, get(num, n), reply(num, api.OK, "abcd"))
		replies(t, "Help", s, help(num, n, 0), reply(num, api.OK, "ab"))
		replies(t, "Check", s, check(num, n), reply(num, api.OK, ""))
		replies(t, "Get, with an error", s, get(num, name(99)), reply(num, api.ErrNone, ""))
		replies(t, "Help, with an error", s, help(num, name(99), 0), reply(num, api.ErrNone, ""))
		replies(t, "Check, with an error", s, check(num, name(99)), reply(num, api.ErrNone, ""))
	}
	did(t, "all of them", s, uint64(8*len(nums)))
	s.Restart(0, 0)
	for i, num := range nums {
		replies(t, "Drop", s, drop(num, name(i)), reply(num, api.OK, ""))
	}
	did(t, "Drops", s, uint64(len(nums)))
	for _, num := range nums {
		remembers(t, "Drops", s, num, api.OK)
	}
}

func TestPing(t *testing.T) {
	d, s := fresh(t, 2, 40)
	puts(t, s, 1, name(1))
	replies(t, "Ping", s, ping(2), reply(2, api.OK, ""))
	replies(t, "Ping of a shard that is there", s, asked(1, 3, name(1), 0, ""), reply(3, api.OK, ""))
	replies(t, "Ping of one that is not", s, asked(1, 4, name(2), 0, ""), reply(4, api.OK, ""))
	d.Spoil(0, 26, 1)
	replies(t, "Ping of one that is spoilt", s, asked(1, 5, name(1), 0, ""), reply(5, api.OK, ""))
	did(t, "Pings", s, 5)
	loose(t, "Pings", d, 0, 1)
	knows(t, "Pings", s, at{name(1), 0})
}

func TestPut(t *testing.T) {
	d, s := fresh(t, 3, 60)
	for i, x := range []struct {
		n    api.Shard
		data string
	}{{name(1, 2, 3, 4), "abcd"}, {api.Shard{}, ""}, {api.Shard{Object: math.MaxUint32, Stripe: math.MaxUint16, Slot: math.MaxUint16, Gen: math.MaxUint32}, "\x00\xFFdata"}} {
		num := uint64(i)
		replies(t, "Put", s, put(num, x.n, x.data), reply(num, api.OK, ""))
		loose(t, "Put", d, 0, i+1)
		if got := string(d.Read(i)); got != whole(x.n, x.data) {
			t.Errorf("cell %d reads %x", i, got)
		}
		if s.Vault().Cell(x.n) != i {
			t.Errorf("%v is in cell %d, want %d", x.n, s.Vault().Cell(x.n), i)
		}
		replies(t, "Get", s, get(100, x.n), reply(100, api.OK, x.data))
	}
}

// No crash loses what a Put put, and it syncs what was loose already.
func TestPutSyncs(t *testing.T) {
	d, s := fresh(t, 2, 40)
	answers(t, "Write", d.Write(1, []byte("loose")), api.OK)
	puts(t, s, 1, name(1))
	loose(t, "Put", d, 0, 1)
	s.Restart(0, 0)
	reads(t, "Restart", d, whole(name(1), "abcd"), "loose")
	knows(t, "Restart", s, at{name(1), 0})
}

func TestPutOfWhatIsThere(t *testing.T) {
	d, s := fresh(t, 3, 40)
	puts(t, s, 1, name(1))
	for i, data := range []string{"abcd", "", "other", strings.Repeat("x", 100)} {
		num := uint64(i + 2)
		replies(t, "Put of what is there", s, put(num, name(1), data), reply(num, api.ErrTwice, ""))
	}
	reads(t, "Put of what is there", d, whole(name(1), "abcd"), "", "")
	loose(t, "Put of what is there", d, 0, 1)
	d.Spoil(0, 26, 1)
	replies(t, "Put of what is spoilt", s, put(7, name(1), "abcd"), reply(7, api.ErrTwice, ""))
	d.Wipe(0)
	replies(t, "Put of what is wiped", s, put(8, name(1), "abcd"), reply(8, api.ErrTwice, ""))
	reads(t, "Put of what is spoilt", d, "", "", "")
	did(t, "Puts", s, 7)
	for _, n := range []api.Shard{name(1, 1), name(1, 0, 1), name(1, 0, 0, 1), name(0)} {
		replies(t, "Put of a name that differs", s, get(9, n), reply(9, api.ErrNone, ""))
	}
}

func TestPutOnAFullDisk(t *testing.T) {
	d, s := fresh(t, 2, 40)
	puts(t, s, 1, name(1), name(2))
	replies(t, "full", s, put(3, name(3), "abcd"), reply(3, api.ErrFull, ""))
	replies(t, "full, and without data", s, put(4, name(3), ""), reply(4, api.ErrFull, ""))
	replies(t, "full, and what is there", s, put(5, name(1), "abcd"), reply(5, api.ErrTwice, ""))
	replies(t, "full, and too long", s, put(6, name(3), strings.Repeat("x", 17)), reply(6, api.ErrLong, ""))
	reads(t, "full", d, whole(name(1), "abcd"), whole(name(2), "abcd"))
	loose(t, "full", d, 0, 2)
	replies(t, "Drop", s, drop(7, name(1)), reply(7, api.OK, ""))
	remembers(t, "not full any more", s, 3, api.ErrFull)
	replies(t, "not full any more", s, put(8, name(3), "abcd"), reply(8, api.OK, ""))
	knows(t, "not full any more", s, at{name(3), 0}, at{name(2), 1})
}

func TestPutOfTooManyBytes(t *testing.T) {
	d, s := fresh(t, 2, 40)
	for i, n := range []int{17, 18, 40, 41, 4096, 65523, 65524, 65525, 65536, 65537, 1 << 20} {
		num := uint64(i + 1)
		replies(t, fmt.Sprint(n, " bytes"), s, put(num, name(1), strings.Repeat("x", n)), reply(num, api.ErrLong, ""))
	}
	reads(t, "too long", d, "", "")
	loose(t, "too long", d, 0, 0)
	knows(t, "too long", s)
	most := strings.Repeat("x", 16)
	replies(t, "16 bytes", s, put(20, name(1), most), reply(20, api.OK, ""))
	replies(t, "16 bytes", s, get(21, name(1)), reply(21, api.OK, most))

	d, s = fresh(t, 1, 23)
	replies(t, "cells that have no room", s, put(1, name(1), ""), reply(1, api.ErrLong, ""))
	reads(t, "cells that have no room", d, "")

	_, s = fresh(t, 1, platter.MostSize)
	replies(t, "greatest cells", s, put(1, name(1), strings.Repeat("x", 4073)), reply(1, api.ErrLong, ""))
	replies(t, "greatest cells", s, put(2, name(1), strings.Repeat("x", 4072)), reply(2, api.OK, ""))
	replies(t, "greatest cells", s, get(3, name(1)), reply(3, api.OK, strings.Repeat("x", 4072)))
}

func TestGet(t *testing.T) {
	dc := dice(1)
	d, s := fresh(t, 30, 80)
	var all []string
	for i := range 30 {
		data := dc.text(i)
		all = append(all, data)
		replies(t, "Put", s, put(uint64(i), name(i, i), data), reply(uint64(i), api.OK, ""))
	}
	_, syncs := d.Loose()
	for i, data := range all {
		replies(t, "Get", s, get(7, name(i, i)), reply(7, api.OK, data))
		replies(t, "Get again", s, get(7, name(i, i)), reply(7, api.OK, data))
		replies(t, "Get of what is not there", s, get(7, name(i, i+1)), reply(7, api.ErrNone, ""))
	}
	loose(t, "Gets", d, 0, syncs)
	did(t, "Gets", s, 120)
}

// stands lets a cell have bytes, without the node knowing of it.
func stands(t *testing.T, d *platter.Disk, cell int, text string) {
	t.Helper()
	answers(t, "Write", d.Write(cell, []byte(text)), api.OK)
	answers(t, "Sync", d.Sync(), api.OK)
}

// spoilt are cells in which a shard does not stand any more, and the error of its Get.
func spoilt(n api.Shard) map[string]api.Errno {
	turned := []byte(whole(n, "abcd"))
	turned[26] ^= 8
	return map[string]api.Errno{
		"":                            api.ErrForm,
		"junk":                        api.ErrForm,
		whole(n, "abcd")[:27]:         api.ErrForm,
		"\x1C" + whole(n, "abcd")[1:]: api.ErrForm,
		string(turned):                api.ErrSum,
		whole(n, "abcd") + "x":        api.ErrForm,
		frame(2, bare(n)+"abcd"):      api.ErrForm,
		frame(1, "abcd"):              api.ErrForm,
		whole(name(5, 5), "abcd"):     api.ErrForm,
	}
}

func TestGetHelpCheckOfWhatIsSpoilt(t *testing.T) {
	d, s := fresh(t, 2, 40)
	puts(t, s, 1, name(9), name(1))
	for cell, e := range spoilt(name(1)) {
		what := fmt.Sprintf("a cell with %x", cell)
		stands(t, d, 1, cell)
		replies(t, what, s, get(3, name(1)), reply(3, e, ""))
		replies(t, what, s, check(4, name(1)), reply(4, e, ""))
		for _, lost := range []int{0, 2, 4, 5, 65535} {
			replies(t, what, s, help(5, name(1), lost), reply(5, e, ""))
		}
		replies(t, what, s, get(6, name(9)), reply(6, api.OK, "abcd"))
		knows(t, what, s, at{name(9), 0}, at{name(1), 1})
	}
	stands(t, d, 1, whole(name(1), "efgh"))
	replies(t, "other data", s, get(3, name(1)), reply(3, api.OK, "efgh"))
	replies(t, "other data", s, check(4, name(1)), reply(4, api.OK, ""))
	replies(t, "other data", s, help(5, name(1), 0), reply(5, api.OK, "ef"))
}

// mul multiplies two elements, bit by bit.
func mul(a, b byte) byte {
	var p byte
	for range 8 {
		if b&1 == 1 {
			p ^= a
		}
		over := a&128 != 0
		if a <<= 1; over {
			a ^= 0x1D
		}
		b >>= 1
	}
	return p
}

// fragment makes the fragment of a shard slowly, or none, if the slot or the length does not fit.
func fragment(c *msr.Code, lost int, shard string) (string, bool) {
	parts := c.Parts()
	if lost >= c.N() || len(shard) == 0 || len(shard)%parts != 0 {
		return "", false
	}
	b := make([]byte, len(shard)/parts)
	for i := range len(shard) {
		b[i%len(b)] ^= mul(c.Row(lost)[i/len(b)], shard[i])
	}
	return string(b), true
}

func TestHelp(t *testing.T) {
	d, s := fresh(t, 2, 40)
	puts(t, s, 1, name(1))
	for lost, want := range []string{"ab", "\x02\x06", "\xA7\xAA", "\xC4\xCE", "\xF0\xEF"} {
		replies(t, fmt.Sprint("Lost ", lost), s, help(2, name(1), lost), reply(2, api.OK, want))
	}
	for _, lost := range []int{5, 6, 23, 24, 127, 128, 255, 256, 257, 258, 32767, 32768, 65535} {
		replies(t, fmt.Sprint("Lost ", lost), s, help(2, name(1), lost), reply(2, api.ErrArg, ""))
	}
	for _, lost := range []int{0, 2, 4, 5, 65535} {
		replies(t, "of what is not there", s, help(2, name(2), lost), reply(2, api.ErrNone, ""))
	}
	loose(t, "Helps", d, 0, 1)
	did(t, "Helps", s, 1+5+13+5)
}

// The slot of the shard that helps does not count, even if it is the lost one.
func TestHelpOfAnySlot(t *testing.T) {
	_, s := fresh(t, 6, 40)
	for slot := range 6 {
		n := name(1, 0, slot)
		puts(t, s, uint64(slot), n)
		replies(t, fmt.Sprint("slot ", slot), s, help(9, n, 2), reply(9, api.OK, "\xA7\xAA"))
	}
}

func TestHelpOfLengthsThatAreNoShards(t *testing.T) {
	_, s := fresh(t, 10, 40)
	for size := range 10 {
		data, n := "abcdefghij"[:size], name(size)
		replies(t, "Put", s, put(uint64(size), n, data), reply(uint64(size), api.OK, ""))
		for lost := range 7 {
			want, ok := fragment(code(t, 5, 3), lost, data)
			if fits := size > 0 && size%2 == 0 && lost < 5; ok != fits {
				t.Fatal("the test is wrong")
			}
			p := reply(100, api.OK, want)
			if !ok {
				p = reply(100, api.ErrArg, "")
			}
			replies(t, fmt.Sprint(size, " bytes, Lost ", lost), s, help(100, n, lost), p)
		}
		replies(t, "Check", s, check(100, n), reply(100, api.OK, ""))
	}
}

func TestHelpOfEachCode(t *testing.T) {
	dc := dice(2)
	for _, x := range []struct{ n, k int }{{3, 2}, {24, 2}, {5, 3}, {7, 4}, {24, 5}, {15, 8}, {24, 8}} {
		c := code(t, x.n, x.k)
		s, _ := New(c, disk(t, 3, 200))
		for i, size := range []int{c.Parts(), 2 * c.Parts(), 9 * c.Parts()} {
			data := dc.text(size)
			replies(t, "Put", s, put(uint64(i), name(i), data), reply(uint64(i), api.OK, ""))
			for lost := range x.n + 3 {
				want, e := "", api.ErrArg
				if w, ok := fragment(c, lost, data); ok {
					want, e = w, api.OK
				}
				replies(t, fmt.Sprint(x, ", Lost ", lost), s, help(9, name(i), lost), reply(9, e, want))
			}
		}
	}
}

func TestDrop(t *testing.T) {
	d, s := fresh(t, 3, 40)
	puts(t, s, 1, name(1), name(2), name(3))
	answers(t, "Write", d.Write(2, []byte("loose")), api.OK)
	replies(t, "Drop", s, drop(4, name(2)), reply(4, api.OK, ""))
	reads(t, "Drop", d, whole(name(1), "abcd"), "", "loose")
	loose(t, "Drop", d, 0, 4)
	knows(t, "Drop", s, at{name(1), 0}, at{name(3), 2})
	replies(t, "Get", s, get(5, name(2)), reply(5, api.ErrNone, ""))
	replies(t, "Help", s, help(5, name(2), 0), reply(5, api.ErrNone, ""))
	replies(t, "Check", s, check(5, name(2)), reply(5, api.ErrNone, ""))
	replies(t, "Drop once more", s, drop(6, name(2)), reply(6, api.ErrNone, ""))
	replies(t, "Drop of what is not there", s, drop(7, name(4)), reply(7, api.ErrNone, ""))
	loose(t, "Drop of what is not there", d, 0, 4)
	replies(t, "Put", s, put(8, name(2), "efgh"), reply(8, api.OK, ""))
	replies(t, "Get", s, get(9, name(2)), reply(9, api.OK, "efgh"))
	replies(t, "Drop of what is spoilt", s, drop(10, name(3)), reply(10, api.OK, ""))
	reads(t, "Drop of what is spoilt", d, whole(name(1), "abcd"), whole(name(2), "efgh"), "")
	s.Restart(0, 0)
	knows(t, "Restart", s, at{name(1), 0}, at{name(2), 1})
}

func TestCheck(t *testing.T) {
	d, s := fresh(t, 2, 40)
	puts(t, s, 1, name(1))
	replies(t, "Put", s, put(2, name(2), ""), reply(2, api.OK, ""))
	replies(t, "Check", s, check(3, name(1)), reply(3, api.OK, ""))
	replies(t, "Check of no data", s, check(4, name(2)), reply(4, api.OK, ""))
	replies(t, "Check of what is not there", s, check(5, name(3)), reply(5, api.ErrNone, ""))
	loose(t, "Checks", d, 0, 2)
	d.Spoil(0, 26, 1)
	replies(t, "Check of what is spoilt", s, check(6, name(1)), reply(6, api.ErrSum, ""))
	replies(t, "Check of another one", s, check(7, name(2)), reply(7, api.OK, ""))
	knows(t, "Checks", s, at{name(1), 0}, at{name(2), 1})
	did(t, "Checks", s, 7)
}

func TestPutAskedAgain(t *testing.T) {
	d, s := fresh(t, 3, 40)
	puts(t, s, 1, name(1))
	for range 3 {
		replies(t, "again", s, put(1, name(1), "abcd"), reply(1, api.OK, ""))
		did(t, "again", s, 1)
		reads(t, "again", d, whole(name(1), "abcd"), "", "")
		loose(t, "again", d, 0, 1)
	}
	replies(t, "Drop", s, drop(2, name(1)), reply(2, api.OK, ""))
	replies(t, "again, behind a Drop", s, put(1, name(1), "abcd"), reply(1, api.OK, ""))
	did(t, "again, behind a Drop", s, 2)
	reads(t, "again, behind a Drop", d, "", "", "")
	loose(t, "again, behind a Drop", d, 0, 2)
	knows(t, "again, behind a Drop", s)
}

func TestDropAskedAgain(t *testing.T) {
	d, s := fresh(t, 3, 40)
	puts(t, s, 1, name(1))
	replies(t, "Drop", s, drop(2, name(1)), reply(2, api.OK, ""))
	for range 3 {
		replies(t, "again", s, drop(2, name(1)), reply(2, api.OK, ""))
		did(t, "again", s, 2)
		loose(t, "again", d, 0, 2)
	}
	replies(t, "Put", s, put(3, name(1), "efgh"), reply(3, api.OK, ""))
	replies(t, "again, behind a Put", s, drop(2, name(1)), reply(2, api.OK, ""))
	did(t, "again, behind a Put", s, 3)
	reads(t, "again, behind a Put", d, whole(name(1), "efgh"), "", "")
	knows(t, "again, behind a Put", s, at{name(1), 0})
}

// A remembered reply is the answer to any Put and any Drop of its Num.
func TestSameNumOtherwise(t *testing.T) {
	d, s := fresh(t, 3, 40)
	puts(t, s, 1, name(1), name(2))
	replies(t, "Drop", s, drop(3, name(2)), reply(3, api.OK, ""))
	for _, num := range []uint64{1, 2, 3} {
		for _, q := range []string{
			put(num, name(1), "abcd"), put(num, name(1), "efgh"), put(num, name(1), ""), put(num, name(2), "abcd"), put(num, name(3), "abcd"),
			put(num, name(3), strings.Repeat("x", 100)), drop(num, name(1)), drop(num, name(2)), drop(num, name(3)),
		} {
			replies(t, "same Num", s, q, reply(num, api.OK, ""))
		}
	}
	did(t, "same Num", s, 3)
	reads(t, "same Num", d, whole(name(1), "abcd"), "", "")
	loose(t, "same Num", d, 0, 3)
	knows(t, "same Num", s, at{name(1), 0})
}

// Whatever the reply to a Put or a Drop is, it is remembered, even if another one would be told by now.
func TestErrorsAreRemembered(t *testing.T) {
	d, s := fresh(t, 2, 40)
	puts(t, s, 1, name(1), name(2))
	replies(t, "twice", s, put(3, name(1), "abcd"), reply(3, api.ErrTwice, ""))
	replies(t, "long", s, put(4, name(3), strings.Repeat("x", 17)), reply(4, api.ErrLong, ""))
	replies(t, "full", s, put(5, name(3), "abcd"), reply(5, api.ErrFull, ""))
	replies(t, "none", s, drop(6, name(3)), reply(6, api.ErrNone, ""))
	replies(t, "Drop", s, drop(7, name(1)), reply(7, api.OK, ""))
	replies(t, "twice, again", s, put(3, name(1), "abcd"), reply(3, api.ErrTwice, ""))
	replies(t, "long, again", s, put(4, name(3), "x"), reply(4, api.ErrLong, ""))
	replies(t, "full, again", s, put(5, name(3), "abcd"), reply(5, api.ErrFull, ""))
	replies(t, "Put", s, put(8, name(3), "abcd"), reply(8, api.OK, ""))
	replies(t, "none, again", s, drop(6, name(3)), reply(6, api.ErrNone, ""))
	for num, e := range []api.Errno{1: api.OK, api.OK, api.ErrTwice, api.ErrLong, api.ErrFull, api.ErrNone, api.OK, api.OK} {
		if num > 0 {
			remembers(t, "all", s, uint64(num), e)
		}
	}
	did(t, "all", s, 8)
	reads(t, "all", d, whole(name(3), "abcd"), whole(name(2), "abcd"))
}

func TestNumOfAPutAskedWithOtherKinds(t *testing.T) {
	_, s := fresh(t, 2, 40)
	puts(t, s, 1, name(1))
	replies(t, "an error", s, put(2, name(1), "abcd"), reply(2, api.ErrTwice, ""))
	for num := range uint64(3) {
		replies(t, "Ping", s, ping(num), reply(num, api.OK, ""))
		replies(t, "Get", s, get(num, name(1)), reply(num, api.OK, "abcd"))
		replies(t, "Help", s, help(num, name(1), 2), reply(num, api.OK, "\xA7\xAA"))
		replies(t, "Help, with an error", s, help(num, name(1), 5), reply(num, api.ErrArg, ""))
		replies(t, "Check", s, check(num, name(1)), reply(num, api.OK, ""))
		replies(t, "Check, with an error", s, check(num, name(2)), reply(num, api.ErrNone, ""))
		did(t, "other kinds", s, 2+6*(num+1))
	}
	remembers(t, "other kinds", s, 1, api.OK)
	remembers(t, "other kinds", s, 2, api.ErrTwice)
	forgot(t, "other kinds", s, 0)
}

func TestOtherKindsAreNotRemembered(t *testing.T) {
	for _, n := range []int{1, 31, 32, 33, 100} {
		for kind, q := range map[string]func(num uint64) string{
			"Ping":  ping,
			"Get":   func(num uint64) string { return get(num, name(1)) },
			"Help":  func(num uint64) string { return help(num, name(1), 1) },
			"Check": func(num uint64) string { return check(num, name(1)) },
			"Wrong": func(num uint64) string { return check(num, name(9)) },
		} {
			what := fmt.Sprint(n, " of ", kind)
			d, s := fresh(t, 2, 40)
			puts(t, s, 1, name(1))
			fills(t, s, 2, Most-1)
			for i := range n {
				s.Handle([]byte(q(uint64(1000 + i))))
			}
			s.Handle([]byte(q(2000)))
			for i := range uint64(Most) {
				remembers(t, what, s, i+1, []api.Errno{api.OK, api.ErrNone}[min(i, 1)])
			}
			replies(t, what, s, put(2000, name(2), "efgh"), reply(2000, api.OK, ""))
			reads(t, what, d, whole(name(1), "abcd"), whole(name(2), "efgh"))
			remembers(t, what, s, 2000, api.OK)
			forgot(t, what, s, 1)
		}
	}
}

// The same bytes, asked once more straight behind, are answered as the disk is by then.
func TestTheSameQuestionOnceMore(t *testing.T) {
	for _, x := range []struct{ q, good string }{
		{get(1, name(1)), reply(1, api.OK, "abcd")},
		{help(1, name(1), 1), reply(1, api.OK, "\x02\x06")},
		{check(1, name(1)), reply(1, api.OK, "")},
	} {
		d, s := fresh(t, 2, 40)
		puts(t, s, 1, name(1))
		replies(t, "good", s, x.q, x.good)
		d.Spoil(0, 26, 1)
		replies(t, "spoilt", s, x.q, reply(1, api.ErrSum, ""))
		d.Spoil(0, 26, 1)
		replies(t, "mended", s, x.q, x.good)
		d.Wipe(0)
		replies(t, "wiped", s, x.q, reply(1, api.ErrForm, ""))
		s.Restart(0, 0)
		replies(t, "unknown", s, x.q, reply(1, api.ErrNone, ""))
		did(t, "unknown", s, 1)
		replies(t, "unknown", s, x.q, reply(1, api.ErrNone, ""))
		did(t, "unknown", s, 2)
	}
}

// A Get whose answer has changed is not answered from memory.
func TestGetsOfTheSameNum(t *testing.T) {
	d, s := fresh(t, 2, 40)
	replies(t, "ahead of the Put", s, get(1, name(1)), reply(1, api.ErrNone, ""))
	replies(t, "ahead of the Put", s, check(1, name(1)), reply(1, api.ErrNone, ""))
	puts(t, s, 1, name(1))
	replies(t, "behind the Put", s, get(1, name(1)), reply(1, api.OK, "abcd"))
	replies(t, "behind the Put", s, check(1, name(1)), reply(1, api.OK, ""))
	replies(t, "behind the Put", s, help(1, name(1), 0), reply(1, api.OK, "ab"))
	d.Spoil(0, 26, 1)
	replies(t, "spoilt", s, get(1, name(1)), reply(1, api.ErrSum, ""))
	replies(t, "spoilt", s, check(1, name(1)), reply(1, api.ErrSum, ""))
	replies(t, "spoilt", s, help(1, name(1), 0), reply(1, api.ErrSum, ""))
	d.Spoil(0, 26, 1)
	replies(t, "mended", s, get(1, name(1)), reply(1, api.OK, "abcd"))
}

func TestTheOldestIsForgotten(t *testing.T) {
	for n := range 80 {
		for _, first := range []string{put(1000, name(1), "abcd"), put(1000, name(2), "abcd"), drop(1000, name(2)), drop(1000, name(3))} {
			d := safe(t, 40, "", whole(name(2), "abcd"))
			s := on(t, d)
			e := api.Errno(s.Handle([]byte(first))[8])
			fills(t, s, 1, n)
			did(t, "first", s, uint64(n)+1)
			what := fmt.Sprintf("%d behind %q", n, first)
			if n <= 31 {
				remembers(t, what, s, 1000, e)
			} else {
				forgot(t, what, s, 1000)
			}
		}
	}
}

// The last 32 are remembered, and none ahead of them.
func TestThoseThatAreRemembered(t *testing.T) {
	for n := range 100 {
		_, s := fresh(t, 2, 40)
		fills(t, s, 1, n)
		for i := range n {
			num := uint64(i + 1)
			if i >= n-Most {
				remembers(t, fmt.Sprint("of ", n), s, num, api.ErrNone)
			}
		}
		// What is forgotten is asked from the newest on, as each that is asked is remembered, and another one forgotten.
		for i := n - Most - 1; i >= 0; i-- {
			forgot(t, fmt.Sprint("of ", n), s, uint64(i+1))
		}
	}
}

// Puts and Drops together are 32.
func TestPutsAndDropsAreRememberedTogether(t *testing.T) {
	_, s := fresh(t, 40, 40)
	for i := range uint64(16) {
		puts(t, s, 2*i, name(int(i)))
		replies(t, "Drop", s, drop(2*i+1, name(99)), reply(2*i+1, api.ErrNone, ""))
	}
	for i := range uint64(32) {
		remembers(t, "together", s, i, []api.Errno{api.OK, api.ErrNone}[i%2])
	}
	puts(t, s, 32, name(32))
	for i := range uint64(32) {
		remembers(t, "one more", s, i+1, []api.Errno{api.ErrNone, api.OK}[i%2])
	}
	replies(t, "the oldest", s, put(0, name(0), "abcd"), reply(0, api.ErrTwice, ""))
	for i := range uint64(31) {
		remembers(t, "another one more", s, i+2, []api.Errno{api.OK, api.ErrNone}[i%2])
	}
	remembers(t, "another one more", s, 0, api.ErrTwice)
	replies(t, "the next one", s, put(1, name(0), "abcd"), reply(1, api.ErrTwice, ""))
}

// A reply is as old as when it was first given, however often it was asked for.
func TestAskingAgainMakesNoReplyNewer(t *testing.T) {
	d, s := fresh(t, 2, 40)
	puts(t, s, 1000, name(1))
	for i := range uint64(31) {
		fills(t, s, i+1, 1)
		for range 3 {
			replies(t, "again", s, put(1000, name(1), "abcd"), reply(1000, api.OK, ""))
		}
	}
	for i := range uint64(31) {
		remembers(t, "asked again", s, i+1, api.ErrNone)
	}
	fills(t, s, 32, 1)
	for i := range uint64(32) {
		remembers(t, "asked again", s, i+1, api.ErrNone)
	}
	replies(t, "forgotten", s, put(1000, name(1), "abcd"), reply(1000, api.ErrTwice, ""))
	did(t, "forgotten", s, 34)
	loose(t, "forgotten", d, 0, 1)
}

// A Num that was forgotten, and is asked again, is remembered with what is answered then.
func TestANumThatWasForgotten(t *testing.T) {
	_, s := fresh(t, 2, 40)
	puts(t, s, 1000, name(1))
	fills(t, s, 1, 32)
	replies(t, "forgotten", s, put(1000, name(1), "abcd"), reply(1000, api.ErrTwice, ""))
	remembers(t, "anew", s, 1000, api.ErrTwice)
	fills(t, s, 100, 31)
	remembers(t, "31 later", s, 1000, api.ErrTwice)
	fills(t, s, 200, 1)
	replies(t, "32 later", s, drop(1000, name(1)), reply(1000, api.OK, ""))
	remembers(t, "once more", s, 1000, api.OK)
	fills(t, s, 300, 31)
	remembers(t, "once more, 31 later", s, 1000, api.OK)
}

// Numbers of which only some bytes are the same are different ones.
func TestNumsThatDiffer(t *testing.T) {
	for bit := range 64 {
		d, s := fresh(t, 2, 40)
		num := uint64(0x0123456789ABCDEF)
		puts(t, s, num, name(1))
		other := num ^ 1<<bit
		replies(t, "another Num", s, put(other, name(2), "efgh"), reply(other, api.OK, ""))
		replies(t, "a third Num", s, drop(^num, name(3)), reply(^num, api.ErrNone, ""))
		did(t, "another Num", s, 3)
		reads(t, "another Num", d, whole(name(1), "abcd"), whole(name(2), "efgh"))
		remembers(t, "another Num", s, num, api.OK)
		remembers(t, "another Num", s, other, api.OK)
		remembers(t, "another Num", s, ^num, api.ErrNone)
	}
}

// P16.3

func TestTripOfAPut(t *testing.T) {
	whole3 := whole(name(3), "efgh")
	for _, was := range []string{"", "junk", strings.Repeat("j", 40), whole(name(2), "abcd") + "x"} {
		for _, keep := range crashes {
			for _, bytes := range crashes {
				what := fmt.Sprintf("Trip with %d, %d over %q", keep, bytes, was)
				d := safe(t, 60, whole(name(1), "abcd"), was, "")
				s := on(t, d)
				s.Handle([]byte(drop(5, name(9))))
				s.Handle([]byte(ping(6)))
				s.Trip([]byte(put(7, name(3), "efgh")), keep, bytes)
				want := whole3
				if keep <= 0 {
					part := min(max(bytes, 0), len(whole3))
					want = whole3[:part] + was[min(part, len(was)):]
				}
				reads(t, what, d, whole(name(1), "abcd"), want, "")
				loose(t, what, d, 0, 1)
				if want == whole3 {
					knows(t, what, s, at{name(1), 0}, at{name(3), 1})
				} else {
					knows(t, what, s, at{name(1), 0})
				}
				did(t, what, s, 0)
				forgot(t, what, s, 5)
				forgot(t, what, s, 7)
			}
		}
	}
}

// Behind a Trip the same Put can be asked again: it is done, or it is there.
func TestPutBehindATrip(t *testing.T) {
	for _, keep := range []int{0, 1} {
		for bytes := range 30 {
			d, s := fresh(t, 2, 40)
			s.Trip([]byte(put(7, name(3), "efgh")), keep, bytes)
			e := api.OK
			if keep == 1 || bytes >= 28 {
				e = api.ErrTwice
			}
			what := fmt.Sprintf("behind a Trip with %d, %d", keep, bytes)
			replies(t, what, s, put(7, name(3), "efgh"), reply(7, e, ""))
			did(t, what, s, 1)
			replies(t, what, s, get(8, name(3)), reply(8, api.OK, "efgh"))
			reads(t, what, d, whole(name(3), "efgh"), "")
		}
	}
}

// The writes that are loose already come ahead of that of the Put.
func TestTripOfAPutBehindLooseWrites(t *testing.T) {
	whole6 := whole(name(6), "efgh")
	for keep, want := range [][]string{
		{whole(name(3), "new!")[:3] + whole(name(1), "abcd")[3:], "", "", ""},
		{whole(name(3), "new!"), whole(name(4), "new!")[:3], "", ""},
		{whole(name(3), "new!"), whole(name(4), "new!"), whole6[:3], ""},
		{whole(name(3), "new!"), whole(name(4), "new!"), whole6, ""},
		{whole(name(3), "new!"), whole(name(4), "new!"), whole6, ""},
	} {
		what := fmt.Sprintf("Trip with %d, 3", keep)
		d := safe(t, 60, whole(name(1), "abcd"), "", "", "")
		answers(t, "Write", d.Write(0, []byte(whole(name(3), "new!"))), api.OK)
		answers(t, "Write", d.Write(1, []byte(whole(name(4), "new!"))), api.OK)
		s := on(t, d)
		s.Trip([]byte(put(7, name(6), "efgh")), keep, 3)
		reads(t, what, d, want...)
		loose(t, what, d, 0, 1)
	}
}

func TestTripOfAPutOfWhatIsThere(t *testing.T) {
	for _, data := range []string{"abcd", "other", ""} {
		for _, keep := range crashes {
			for _, bytes := range []int{-1, 0, 3, math.MaxInt} {
				d, s := fresh(t, 2, 40)
				puts(t, s, 1, name(1))
				s.Trip([]byte(put(2, name(1), data)), keep, bytes)
				reads(t, "Trip of what is there", d, whole(name(1), "abcd"), "")
				loose(t, "Trip of what is there", d, 0, 1)
				knows(t, "Trip of what is there", s, at{name(1), 0})
				did(t, "Trip of what is there", s, 0)
				forgot(t, "Trip of what is there", s, 1)
			}
		}
	}
}

func TestTripOfAPutThatFindsNoRoom(t *testing.T) {
	for _, keep := range crashes {
		for _, bytes := range []int{-1, 0, 3, math.MaxInt} {
			d, s := fresh(t, 2, 40)
			puts(t, s, 1, name(1), name(2))
			s.Trip([]byte(put(3, name(3), "abcd")), keep, bytes)
			reads(t, "Trip of a full disk", d, whole(name(1), "abcd"), whole(name(2), "abcd"))
			knows(t, "Trip of a full disk", s, at{name(1), 0}, at{name(2), 1})
			loose(t, "Trip of a full disk", d, 0, 2)
			did(t, "Trip of a full disk", s, 0)
			forgot(t, "Trip of a full disk", s, 1)

			d, s = fresh(t, 2, 40)
			puts(t, s, 1, name(1))
			for _, n := range []int{17, 100, 65536, 1 << 17} {
				s.Trip([]byte(put(3, name(3), strings.Repeat("x", n))), keep, bytes)
			}
			reads(t, "Trip of too many bytes", d, whole(name(1), "abcd"), "")
			knows(t, "Trip of too many bytes", s, at{name(1), 0})
			loose(t, "Trip of too many bytes", d, 0, 1)
			did(t, "Trip of too many bytes", s, 0)
			forgot(t, "Trip of too many bytes", s, 1)
		}
	}
}

// That a reply is remembered does not keep a Trip from beginning a Put.
func TestTripOfAPutThatIsRemembered(t *testing.T) {
	d, s := fresh(t, 2, 40)
	puts(t, s, 1, name(1))
	replies(t, "Drop", s, drop(2, name(1)), reply(2, api.OK, ""))
	s.Trip([]byte(put(1, name(1), "abcd")), 1, 0)
	reads(t, "Trip", d, whole(name(1), "abcd"), "")
	knows(t, "Trip", s, at{name(1), 0})
	did(t, "Trip", s, 0)
	forgot(t, "Trip", s, 1)
	forgot(t, "Trip", s, 2)
}

func TestTripOfOtherKinds(t *testing.T) {
	l := append(noRequests(), ping(3), asked(1, 3, name(1), 0, ""), get(3, name(1)), get(3, name(3)), help(3, name(1), 2), help(3, name(1), 9), help(3, name(3), 2),
		drop(3, name(1)), drop(3, name(3)), drop(1, name(1)), check(3, name(1)), check(3, name(3)))
	for _, q := range l {
		for _, keep := range []int{math.MinInt, -1, 0, 1, 2, math.MaxInt} {
			for _, bytes := range []int{math.MinInt, -1, 0, 1, 3, 28, math.MaxInt} {
				what := fmt.Sprintf("Trip of %q with %d, %d", q, keep, bytes)
				d, s := fresh(t, 3, 40)
				puts(t, s, 1, name(1), name(2))
				answers(t, "Write", d.Write(2, []byte("loose")), api.OK)
				answers(t, "Write", d.Write(0, []byte("gone")), api.OK)
				s.Trip([]byte(q), keep, bytes)
				first, third := whole(name(1), "abcd"), "loose"
				part := min(max(bytes, 0), 5)
				switch {
				case keep <= 0:
					third = third[:part]
				case keep == 1:
					part = min(part, 4)
					first = "gone"[:part] + first[part:]
				default:
					first = "gone"
				}
				reads(t, what, d, first, whole(name(2), "abcd"), third)
				loose(t, what, d, 0, 2)
				if first == whole(name(1), "abcd") {
					knows(t, what, s, at{name(1), 0}, at{name(2), 1})
				} else {
					knows(t, what, s, at{name(2), 1})
				}
				did(t, what, s, 0)
				forgot(t, what, s, 1)
				forgot(t, what, s, 2)
			}
		}
	}
}

func TestTripOfNil(t *testing.T) {
	d, s := fresh(t, 3, 40)
	puts(t, s, 1, name(1))
	answers(t, "Write", d.Write(2, []byte("loose")), api.OK)
	s.Trip(nil, 0, 2)
	reads(t, "Trip of nil", d, whole(name(1), "abcd"), "", "lo")
	knows(t, "Trip of nil", s, at{name(1), 0})
	did(t, "Trip of nil", s, 0)
	forgot(t, "Trip of nil", s, 1)
}

// A Trip without loose writes leaves the disk as it is.
func TestTripOfADropLeavesTheShard(t *testing.T) {
	for _, keep := range crashes {
		d, s := fresh(t, 2, 40)
		puts(t, s, 1, name(1))
		s.Trip([]byte(drop(2, name(1))), keep, keep)
		reads(t, "Trip of a Drop", d, whole(name(1), "abcd"), "")
		knows(t, "Trip of a Drop", s, at{name(1), 0})
		replies(t, "Trip of a Drop", s, get(2, name(1)), reply(2, api.OK, "abcd"))
	}
}

func TestTripKeepsTheCodeAndTheDisk(t *testing.T) {
	d, s := fresh(t, 1, 40)
	s.Trip([]byte(put(1, name(1), "abcd")), 1, 0)
	replies(t, "behind Trip", s, help(1, name(1), 2), reply(1, api.OK, "\xA7\xAA"))
	replies(t, "behind Trip", s, help(1, name(1), 5), reply(1, api.ErrArg, ""))
	if s.Disk() != d {
		t.Error("the disk is another one")
	}
}

// A nil node, and one that nobody made

func TestNilAndZeroNodes(t *testing.T) {
	l := append(noRequests(), ping(1), put(1, name(1), "abcd"), get(1, name(1)), help(1, name(1), 2), drop(1, name(1)), check(1, name(1)))
	for _, s := range []*Server{nil, {}} {
		for range 2 {
			if s.Vault() != nil || s.Disk() != nil {
				t.Error("a Vault or a Disk")
			}
			did(t, "nil or zero", s, 0)
			for _, q := range l {
				replies(t, "nil or zero", s, q, "")
				for _, keep := range crashes {
					s.Trip([]byte(q), keep, keep)
				}
			}
			if b := s.Handle(nil); len(b) > 0 {
				t.Errorf("Handle of nil: %q", b)
			}
			s.Trip(nil, 0, 0)
			for _, keep := range crashes {
				s.Restart(keep, keep)
			}
			did(t, "nil or zero", s, 0)
		}
	}
}

// All promises together

// given is a remembered reply.
type given struct {
	num uint64
	e   api.Errno
}

// model is a node, the slow way: names and cells in two lists, all replies since it came up, and frames made by hand on a
// disk of its own.
type model struct {
	c     *msr.Code
	d     *platter.Disk
	names []api.Shard
	cells []int
	given []given
	done  uint64
}

// parse returns the name and the data of the shard that a cell is, or the error.
func parse(cell string) (api.Shard, string, api.Errno) {
	if len(cell) < 12 || cell[:2] != "\x1D\xCF" {
		return api.Shard{}, "", api.ErrForm
	}
	size := uint64(binary.LittleEndian.Uint32([]byte(cell[4:])))
	if size > 65536 || size > uint64(len(cell)-12) {
		return api.Shard{}, "", api.ErrForm
	}
	load := cell[12 : 12+size]
	kind := binary.LittleEndian.Uint16([]byte(cell[2:]))
	if frame(int(kind), load) != cell[:12+size] {
		return api.Shard{}, "", api.ErrSum
	}
	if kind != 1 || len(load) < 12 || len(cell) != 12+len(load) {
		return api.Shard{}, "", api.ErrForm
	}
	return unbare(load), load[12:], api.OK
}

// unbare reads a name.
func unbare(s string) api.Shard {
	b := []byte(s)
	return api.Shard{
		Object: binary.LittleEndian.Uint32(b),
		Stripe: binary.LittleEndian.Uint16(b[4:]),
		Slot:   binary.LittleEndian.Uint16(b[6:]),
		Gen:    binary.LittleEndian.Uint32(b[8:]),
	}
}

func (m *model) open() {
	m.names, m.cells, m.given, m.done = nil, nil, nil, 0
	for i, cell := range cells(m.d) {
		if s, _, e := parse(cell); e == api.OK && !slices.Contains(m.names, s) {
			m.names, m.cells = append(m.names, s), append(m.cells, i)
		}
	}
}

func (m *model) begin(s api.Shard, data string) api.Errno {
	n, size := m.d.Len()
	if slices.Contains(m.names, s) {
		return api.ErrTwice
	}
	if len(data)+24 > size {
		return api.ErrLong
	}
	for i := range n {
		if !slices.Contains(m.cells, i) {
			m.names, m.cells = append(m.names, s), append(m.cells, i)
			return m.d.Write(i, []byte(whole(s, data)))
		}
	}
	return api.ErrFull
}

func (m *model) put(s api.Shard, data string) api.Errno {
	e := m.begin(s, data)
	if e == api.OK {
		e = m.d.Sync()
	}
	return e
}

func (m *model) drop(s api.Shard) api.Errno {
	i := slices.Index(m.names, s)
	if i < 0 {
		return api.ErrNone
	}
	m.d.Write(m.cells[i], nil)
	m.names, m.cells = slices.Delete(m.names, i, i+1), slices.Delete(m.cells, i, i+1)
	return m.d.Sync()
}

func (m *model) get(s api.Shard) (string, api.Errno) {
	i := slices.Index(m.names, s)
	if i < 0 {
		return "", api.ErrNone
	}
	n, data, e := parse(string(m.d.Read(m.cells[i])))
	if e != api.OK {
		return "", e
	}
	if n != s {
		return "", api.ErrForm
	}
	return data, api.OK
}

// question is a request, read by hand.
type question struct {
	kind int
	num  uint64
	s    api.Shard
	lost int
	data string
}

// read reads a request by hand.
func read(b string) (question, bool) {
	if len(b) < 23 {
		return question{}, false
	}
	q := question{
		kind: int(b[0]),
		num:  binary.LittleEndian.Uint64([]byte(b[1:])),
		s:    unbare(b[9:]),
		lost: int(b[21]) + 256*int(b[22]),
		data: b[23:],
	}
	right := q.kind >= 1 && q.kind <= 6 && (q.lost == 0 || q.kind == 4) && (q.data == "" || q.kind == 2)
	return q, right
}

func (m *model) handle(b string) string {
	q, ok := read(b)
	if !ok {
		return ""
	}
	lasting := q.kind == 2 || q.kind == 5
	if lasting {
		for _, g := range m.given[max(0, len(m.given)-32):] {
			if g.num == q.num {
				return reply(q.num, g.e, "")
			}
		}
	}
	m.done++
	e, data := api.OK, ""
	switch q.kind {
	case 2:
		e = m.put(q.s, q.data)
	case 3:
		data, e = m.get(q.s)
	case 4:
		if data, e = m.get(q.s); e == api.OK {
			if data, ok = fragment(m.c, q.lost, data); !ok {
				e = api.ErrArg
			}
		}
	case 5:
		e = m.drop(q.s)
	case 6:
		_, e = m.get(q.s)
	}
	if lasting {
		m.given = append(m.given, given{q.num, e})
	}
	return reply(q.num, e, data)
}

func (m *model) restart(keep, bytes int) {
	m.d.Crash(keep, bytes)
	m.open()
}

func (m *model) trip(b string, keep, bytes int) {
	if q, ok := read(b); ok && q.kind == 2 {
		m.begin(q.s, q.data)
	}
	m.restart(keep, bytes)
}

// same checks a node against the model.
func same(t *testing.T, what string, s *Server, d *platter.Disk, m *model) {
	t.Helper()
	var want []at
	for i, n := range m.names {
		want = append(want, at{n, m.cells[i]})
	}
	knows(t, what, s, want...)
	did(t, what, s, m.done)
	reads(t, what, d, cells(m.d)...)
	writes, syncs := m.d.Loose()
	loose(t, what, d, writes, syncs)
	if s.Disk() != d {
		t.Errorf("%s: another disk", what)
	}
}

// both does to two disks what happens to disks behind the back of a node.
func both(dc *dice, s api.Shard, data string, a, b *platter.Disk) {
	n, size := a.Len()
	cell, at, bits := dc.below(n), dc.below(size), byte(1<<dc.below(8))
	text := []string{whole(s, data), frame(2, bare(s)+data), frame(1, data), whole(s, data) + "x", data}[dc.below(5)]
	what := dc.below(5)
	for _, d := range []*platter.Disk{a, b} {
		switch what {
		case 0, 1:
			d.Spoil(cell, at, bits)
		case 2:
			d.Wipe(cell)
		case 3:
			d.Write(cell, []byte(text))
		case 4:
			d.Sync()
		}
	}
}

// request makes a request, now and then one that is none.
func (d *dice) request(nums int) string {
	s := name(d.below(2), d.below(2), d.below(2))
	num := uint64(d.below(nums))
	data := d.text([]int{0, 2, 4, 6, 8, 3, 9, 30}[d.below(8)])
	switch d.below(12) {
	case 0:
		return ping(num)
	case 1, 2, 3, 4:
		return put(num, s, data)
	case 5, 6:
		return get(num, s)
	case 7, 8:
		return help(num, s, d.below(7))
	case 9:
		return drop(num, s)
	case 10:
		return check(num, s)
	}
	b := asked(d.below(9), num, s, d.below(2), d.text(d.below(3)))
	return b[:len(b)-d.below(2)*d.below(len(b))]
}

func TestAnyCallsInAnyOrder(t *testing.T) {
	codes := []*msr.Code{code(t, 3, 2), code(t, 5, 3), code(t, 6, 3), code(t, 7, 4)}
	for seed := range 300 {
		dc := dice(seed)
		n, size := 1+dc.below(8), 24+dc.below(30)
		many := []int{10, 40, 70, 1000}[dc.below(4)]
		rare := []int{8, 40, 400}[dc.below(3)] // how rarely the node comes up again
		c, d := codes[dc.below(4)], disk(t, n, size)
		s, e := New(c, d)
		answers(t, "New", e, api.OK)
		m := &model{c: c, d: disk(t, n, size)}
		for i := range 200 {
			q := dc.request(many)
			keep, bytes := dc.below(5)-1, dc.below(size+3)-1
			what := fmt.Sprintf("seed %d, call %d, %.60q, %d, %d", seed, i, q, keep, bytes)
			replies(t, what, s, q, m.handle(q))
			if dc.below(6) == 0 {
				both(&dc, name(dc.below(2), dc.below(2), dc.below(2)), dc.text(dc.below(5)), d, m.d)
			}
			if dc.below(rare) == 0 {
				s.Restart(keep, bytes)
				m.restart(keep, bytes)
			}
			if q = dc.request(many); dc.below(rare) == 0 {
				s.Trip([]byte(q), keep, bytes)
				m.trip(q, keep, bytes)
			}
			same(t, what, s, d, m)
			if t.Failed() {
				return
			}
		}
	}
}

// Determinism

func TestSameCallsSameAnswers(t *testing.T) {
	run := func() string {
		dc := dice(7)
		d, s := fresh(t, 6, 40)
		var told []byte
		for range 3000 {
			told = fmt.Appendf(told, "%q %d %v,", s.Handle([]byte(dc.request(60))), s.Done(), s.Vault().List())
			if dc.below(50) == 0 {
				s.Trip([]byte(dc.request(60)), dc.below(2), dc.below(40))
			}
			if dc.below(50) == 0 {
				d.Spoil(dc.below(6), dc.below(30), 1)
			}
			if dc.below(50) == 0 {
				s.Restart(dc.below(2), dc.below(40))
			}
		}
		return string(told) + strings.Join(cells(d), ",")
	}
	first := run()
	for range 5 {
		if run() != first {
			t.Error("another run tells something else")
		}
	}
}

// Memory

// spare makes b with n bytes of spare capacity, of which all are '#'.
func spare(b string, n int) []byte {
	all := []byte(b + strings.Repeat("#", n))
	return all[: len(b) : len(b)+n]
}

// untouched checks that b is as spare made it.
func untouched(t *testing.T, what string, b []byte, want string) {
	t.Helper()
	if string(b) != want {
		t.Errorf("%s: the argument has become %.80q", what, b)
	}
	if rest := b[len(b):cap(b)]; strings.Trim(string(rest), "#") != "" {
		t.Errorf("%s: the spare capacity of the argument has become %.80q", what, rest)
	}
}

// scribble overwrites all of b, its spare capacity too. Scribbling twice does not undo it.
func scribble(b []byte) {
	b = b[:cap(b)]
	for i := range b {
		b[i] += 0x25
	}
}

// requests are requests of all kinds, and bytes that are none, to a node that has name(1).
func requests() []string {
	return append(noRequests(), ping(10), put(11, name(2), "efgh"), put(12, name(1), "abcd"), put(13, name(3), strings.Repeat("x", 99)), put(14, name(4), ""),
		get(15, name(1)), get(16, name(9)), help(17, name(1), 2), help(18, name(1), 9), check(19, name(1)), drop(20, name(9)), drop(21, name(1)), put(11, name(2), "efgh"), drop(21, name(1)))
}

func TestBytesAreNotChanged(t *testing.T) {
	_, s := fresh(t, 4, 40)
	puts(t, s, 1, name(1))
	for _, q := range requests() {
		b := spare(q, 64)
		s.Handle(b)
		untouched(t, "Handle", b, q)
	}
	for _, keep := range []int{-1, 0, 1} {
		for _, q := range requests() {
			b := spare(q, 64)
			s.Trip(b, keep, 5)
			untouched(t, "Trip", b, q)
		}
	}
}

// What stands behind the bytes is not read.
func TestSpareCapacityDoesNotCount(t *testing.T) {
	_, s := fresh(t, 40, 60)
	all := []byte(put(7, name(1), "abcdefgh"))
	for n := range 23 {
		if b := s.Handle(all[:n]); len(b) > 0 {
			t.Errorf("%d bytes: %q", n, b)
		}
	}
	for n := 23; n <= len(all); n++ {
		b := slices.Clone(all)
		b[1], b[9] = byte(n), byte(n) // another Num and another shard
		if got := string(s.Handle(b[:n])); got != reply(uint64(n), api.OK, "") {
			t.Errorf("%d bytes: %q", n, got)
		}
		replies(t, "Get", s, get(1, name(n)), reply(1, api.OK, "abcdefgh"[:n-23]))
	}
	_, s = fresh(t, 40, 60)
	for n := 23; n <= len(all); n++ {
		b := slices.Clone(all)
		b[9] = byte(n)
		s.Trip(b[:n], 1, 0)
		replies(t, "Get", s, get(1, name(n)), reply(1, api.OK, "abcdefgh"[:n-23]))
	}
	b := []byte(asked(3, 1, name(23), 0, "abcd"))
	if got := string(s.Handle(b[:23])); got != reply(1, api.OK, "") {
		t.Errorf("a Get: %q", got)
	}
}

// The bytes may be changed once the call has answered.
func TestBytesMayBeChangedLater(t *testing.T) {
	d, s := fresh(t, 3, 40)
	b := spare(put(1, name(1), "abcd"), 64)
	p := s.Handle(b)
	scribble(b)
	if string(p) != reply(1, api.OK, "") {
		t.Errorf("the reply changed with the bytes: %q", p)
	}
	reads(t, "Handle", d, whole(name(1), "abcd"), "", "")
	knows(t, "Handle", s, at{name(1), 0})
	remembers(t, "Handle", s, 1, api.OK)
	replies(t, "Handle", s, get(2, name(1)), reply(2, api.OK, "abcd"))

	b = spare(get(3, name(1)), 64)
	p = s.Handle(b)
	scribble(b)
	if string(p) != reply(3, api.OK, "abcd") {
		t.Errorf("the reply changed with the bytes: %q", p)
	}

	b = spare(drop(4, name(9)), 64)
	s.Handle(b)
	scribble(b)
	remembers(t, "a Drop", s, 4, api.ErrNone)
	remembers(t, "Handle", s, 1, api.OK)

	b = spare(put(5, name(2), "efgh"), 64)
	s.Trip(b, 1, 0)
	scribble(b)
	reads(t, "Trip", d, whole(name(1), "abcd"), whole(name(2), "efgh"), "")
	knows(t, "Trip", s, at{name(1), 0}, at{name(2), 1})
}

// A buffer that is used for one request behind the other tells nothing of those that came ahead.
func TestOneBufferForAllRequests(t *testing.T) {
	_, s := fresh(t, 40, 40)
	buffer := make([]byte, 100)
	for i := range uint64(40) {
		data := strings.Repeat(string(rune('a'+i%26)), int(i%16))
		n := copy(buffer, put(i, name(int(i)), data))
		if got := string(s.Handle(buffer[:n])); got != reply(i, api.OK, "") {
			t.Errorf("Put %d: %q", i, got)
		}
	}
	for i := range uint64(40) {
		data := strings.Repeat(string(rune('a'+i%26)), int(i%16))
		replies(t, "Get", s, get(i, name(int(i))), reply(i, api.OK, data))
	}
	for i := range uint64(32) {
		n := copy(buffer, put(i+8, name(99), "zz"))
		if got := string(s.Handle(buffer[:n])); got != reply(i+8, api.OK, "") {
			t.Errorf("again %d: %q", i+8, got)
		}
	}
	did(t, "one buffer", s, 80)
}

// What Handle returned stays, whatever is asked later, and is apart from the node and from other answers.
func TestRepliesThatAreReturnedStay(t *testing.T) {
	d, s := fresh(t, 4, 40)
	var old [][]byte
	var want []string
	ask := func(q, p string) {
		t.Helper()
		b := s.Handle([]byte(q))
		if string(b) != p {
			t.Errorf("Handle of %q: %q, want %q", q, b, p)
		}
		old, want = append(old, b), append(want, p)
	}
	stay := func(what string) {
		t.Helper()
		for i, b := range old {
			if string(b) != want[i] {
				t.Errorf("%s: answer %d is %q, was %q", what, i, b, want[i])
			}
		}
	}
	ask(put(1, name(1), "abcd"), reply(1, api.OK, ""))
	ask(put(1, name(1), "abcd"), reply(1, api.OK, ""))
	ask(get(2, name(1)), reply(2, api.OK, "abcd"))
	ask(get(2, name(1)), reply(2, api.OK, "abcd"))
	ask(help(3, name(1), 0), reply(3, api.OK, "ab"))
	ask(help(3, name(1), 1), reply(3, api.OK, "\x02\x06"))
	ask(check(4, name(1)), reply(4, api.OK, ""))
	ask(ping(5), reply(5, api.OK, ""))
	ask(put(6, name(2), "efgh"), reply(6, api.OK, ""))
	ask(get(7, name(2)), reply(7, api.OK, "efgh"))
	ask(drop(8, name(2)), reply(8, api.OK, ""))
	ask(drop(8, name(2)), reply(8, api.OK, ""))
	ask(put(8, name(2), "efgh"), reply(8, api.OK, ""))
	stay("later")
	d.Spoil(0, 26, 1)
	d.Wipe(1)
	stay("behind a spoilt cell")
	d.Spoil(0, 26, 1)
	s.Trip([]byte(put(9, name(3), "ijkl")), 1, 0)
	s.Restart(0, 0)
	stay("behind a Restart")

	for i, b := range old {
		scribble(b)
		want[i] = string(b)
		stay("another answer was overwritten")
	}
	replies(t, "overwritten", s, get(2, name(1)), reply(2, api.OK, "abcd"))
	replies(t, "overwritten", s, get(3, name(3)), reply(3, api.OK, "ijkl"))
	reads(t, "overwritten", d, whole(name(1), "abcd"), whole(name(3), "ijkl"), "", "")
}

func TestRememberedRepliesAreApart(t *testing.T) {
	_, s := fresh(t, 4, 40)
	puts(t, s, 1, name(1))
	s.Handle([]byte(drop(2, name(9))))
	for _, x := range []struct {
		num uint64
		e   api.Errno
	}{{1, api.OK}, {2, api.ErrNone}} {
		one := s.Handle([]byte(put(x.num, name(1), "abcd")))
		two := s.Handle([]byte(drop(x.num, name(1))))
		scribble(one)
		if string(two) != reply(x.num, x.e, "") {
			t.Errorf("overwritten with another answer: %q", two)
		}
		remembers(t, "overwritten", s, x.num, x.e)
		three := append(two, "more"...)
		four := append(two, "less"...)
		remembers(t, "appended to", s, x.num, x.e)
		if string(two) != reply(x.num, x.e, "") || string(four) != reply(x.num, x.e, "less") {
			t.Errorf("appended to: %q, %q, %q", two, three, four)
		}
	}
	did(t, "remembered", s, 2)

	// The first answer of all is apart, too.
	_, s = fresh(t, 4, 40)
	scribble(s.Handle([]byte(put(1, name(1), "abcd"))))
	remembers(t, "overwritten", s, 1, api.OK)
	scribble(s.Handle([]byte(get(2, name(1)))))
	replies(t, "overwritten", s, get(2, name(1)), reply(2, api.OK, "abcd"))
}

// The code and the disk are kept: what happens to the disk is seen.
func TestTheDiskIsRetained(t *testing.T) {
	d, s := fresh(t, 2, 40)
	puts(t, s, 1, name(1))
	d.Spoil(0, 26, 1)
	replies(t, "spoilt", s, get(2, name(1)), reply(2, api.ErrSum, ""))
	d.Spoil(0, 26, 1)
	replies(t, "mended", s, get(2, name(1)), reply(2, api.OK, "abcd"))
	d.Write(0, []byte(whole(name(1), "efgh")))
	replies(t, "a loose write", s, get(2, name(1)), reply(2, api.OK, "efgh"))
	s.Disk().Crash(0, 0)
	replies(t, "a crash", s, get(2, name(1)), reply(2, api.OK, "abcd"))
}

// Examples

func TestExample(t *testing.T) {
	_, s := fresh(t, 1, 40)
	p, e := wire.ParseReply(s.Handle(wire.Request{Num: 4, Kind: wire.Get, S: name(1)}.Bytes()))
	if e != api.OK || p.Num != 4 || p.E != api.ErrNone || len(p.Data) > 0 {
		t.Errorf("Get of what is not there: %v, error %d", p, e)
	}
}
