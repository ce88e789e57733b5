package table

import (
	"bytes"
	"fmt"
	"math"
	"slices"
	"strings"
	"testing"

	"coldframe/api"
	"coldframe/stripe"
)

// dice makes numbers that look as if they were random; the seed tells which.
type dice uint64

// below returns a number from 0 to n - 1.
func (d *dice) below(n int) int {
	*d = *d*6364136223846793005 + 1442695040888963407
	return int(*d>>33) % n
}

// greats are numbers far below and far above what anything may be, and such as look right if bits of them are lost.
var greats = []int{math.MinInt, math.MinInt + 1, -1<<32 - 1, -1 << 32, -1<<32 + 1, -1 << 31, -65536, -65535, -256, -255, -1, 1 << 16, 1<<16 + 1, 1<<31 - 1, 1 << 31, 1<<32 - 1, 1 << 32, 1<<32 + 1, 1<<32 + 2, 1 << 40, math.MaxInt - 1, math.MaxInt}

// gens are generations at which something may go another way, rising.
var gens = []uint32{0, 1, 2, 255, 256, 257, 65535, 65536, 1<<31 - 1, 1 << 31, 1<<31 + 1, 1<<32 - 2, 1<<32 - 1}

// row makes the places of a stripe, of generation 0.
func row(nodes ...int) []Place {
	var l []Place
	for _, n := range nodes {
		l = append(l, Place{Node: n})
	}
	return l
}

// planned makes a plan of so many stripes.
func planned(count int) stripe.Plan {
	return stripe.Plan{Length: 9, Count: count, Piece: 3}
}

// The operations.

func begun(num uint32) Op { return Op{Kind: Begin, Num: num} }

func put(num uint32, name string, places ...[]Place) Op {
	return Op{Kind: Commit, Num: num, Name: name, Plan: planned(len(places)), Places: places}
}

func gone(name string) Op { return Op{Kind: Remove, Name: name} }

func moved(num uint32, stripe, slot, node int, gen uint32) Op {
	return Op{Kind: Move, Num: num, Stripe: stripe, Slot: slot, To: Place{Node: node, Gen: gen}}
}

// with makes a table, and does operations that have no error.
func with(t *testing.T, slots, nodes int, ops ...Op) *Table {
	t.Helper()
	x, e := New(slots, nodes)
	if e != api.OK || x == nil {
		t.Fatalf("New(%d, %d): %p, error %d", slots, nodes, x, e)
	}
	does(t, x, ops...)
	return x
}

// begins makes a table of 2 slots and 4 nodes in which so many numbers are begun, and does operations that have no error.
func begins(t *testing.T, n int, ops ...Op) *Table {
	t.Helper()
	x := with(t, 2, 4)
	for i := range n {
		does(t, x, begun(uint32(i+1)))
	}
	does(t, x, ops...)
	return x
}

// does does operations that have no error.
func does(t *testing.T, x *Table, ops ...Op) {
	t.Helper()
	for _, o := range ops {
		if e := x.Apply(o); e != api.OK {
			t.Errorf("%v: error %d", o, e)
		}
	}
}

// tells returns all that a table tells.
func tells(x *Table) string {
	var b strings.Builder
	fmt.Fprint(&b, x.Len(), x.Next(), x.Names(), x.Use(), x.Bytes())
	for i := range x.Len() + 2 {
		o, ok := x.At(i - 1)
		fmt.Fprintf(&b, " At(%d) %v %t", i-1, o, ok)
	}
	for _, name := range []string{"", "a", "aa", "b", "c", "d", "e", "n01", "n63", "n64"} {
		o, ok := x.Find(name)
		fmt.Fprintf(&b, " Find(%s) %v %t", name, o, ok)
	}
	for _, num := range []uint32{0, 1, 2, 3, 4, 5, 6, 63, 64, 65, math.MaxUint32} {
		o, ok := x.Numbered(num)
		fmt.Fprintf(&b, " Numbered(%d) %v %t", num, o, ok)
	}
	return b.String()
}

// refuses checks that an operation has that error, also when it is tried again, and changes nothing.
func refuses(t *testing.T, what string, x *Table, o Op, want api.Errno) {
	t.Helper()
	was := tells(x)
	for range 2 {
		if e := x.Apply(o); e != want {
			t.Errorf("%s: %v: error %d, want %d", what, o, e, want)
		}
		if is := tells(x); is != was {
			t.Errorf("%s: %v: all is %s, was %s", what, o, is, was)
		}
	}
}

// model is a table, the slow way: its objects in the order of their Commits. It is never changed, but made anew.
type model struct {
	slots, nodes int
	next, last   uint32
	objects      []Object
}

// index returns where the object is of which is holds, or -1 if there is none.
func (m model) index(is func(Object) bool) int {
	for i := range m.objects {
		if is(m.objects[i]) {
			return i
		}
	}
	return -1
}

// named returns where the object of a name is, or -1.
func (m model) named(name string) int {
	return m.index(func(o Object) bool { return o.Name == name })
}

// numbered returns where the object of a number is, or -1.
func (m model) numbered(num uint32) int {
	return m.index(func(o Object) bool { return o.Num == num })
}

// sorted returns the objects by their names: each behind all whose bytes are less.
func (m model) sorted() []Object {
	l := make([]Object, len(m.objects))
	for _, o := range m.objects {
		at := 0
		for _, p := range m.objects {
			if bytes.Compare([]byte(p.Name), []byte(o.Name)) < 0 {
				at++
			}
		}
		l[at] = o
	}
	return l
}

// use counts, of each node, the places there.
func (m model) use() []int {
	var l []int
	for n := range m.nodes {
		count := 0
		for _, o := range m.objects {
			for _, p := range slices.Concat(o.Places...) {
				if p.Node == n {
					count++
				}
			}
		}
		l = append(l, count)
	}
	return l
}

// lay appends the lowest size bytes of n, the least significant first.
func lay(b []byte, n uint64, size int) []byte {
	for range size {
		b = append(b, byte(n%256))
		n /= 256
	}
	return b
}

// bytes lays the bytes of a table.
func (m model) bytes() []byte {
	b := lay(nil, uint64(m.next), 4)
	b = lay(b, uint64(m.last), 4)
	b = lay(b, uint64(len(m.objects)), 1)
	for _, o := range m.sorted() {
		b = lay(b, uint64(o.Num), 4)
		b = lay(b, uint64(len(o.Name)), 2)
		b = append(b, o.Name...)
		b = lay(b, uint64(o.Plan.Length), 4)
		b = lay(b, uint64(o.Plan.Count), 2)
		b = lay(b, uint64(o.Plan.Piece), 2)
		for _, p := range slices.Concat(o.Places...) {
			b = lay(b, uint64(p.Node), 1)
			b = lay(b, uint64(p.Gen), 4)
		}
	}
	return b
}

// apply returns what the table is behind an operation, and the operation's error.
func (m model) apply(o Op) (model, api.Errno) {
	switch o.Kind {
	case 1:
		if o.Num != m.next || o.Num == math.MaxUint32 {
			return m, 28
		}
		m.next++
		return m, 0
	case 2:
		return m.commit(o)
	case 3:
		at := m.named(o.Name)
		if at < 0 {
			return m, 6
		}
		m.objects = slices.Concat(m.objects[:at], m.objects[at+1:])
		return m, 0
	case 4:
		return m.move(o)
	}
	return m, 1
}

func (m model) commit(o Op) (model, api.Errno) {
	p := o.Plan
	if !plain(o.Name) || p.Length < 0 || p.Length > 16384 || p.Count < 0 || p.Count > 32 || p.Piece < 1 || p.Piece > 256 || p.Count != len(o.Places) {
		return m, 1
	}
	for _, l := range o.Places {
		if !m.fits(l) {
			return m, 1
		}
	}
	if m.named(o.Name) >= 0 || m.numbered(o.Num) >= 0 {
		return m, 7
	}
	if o.Num <= m.last || o.Num >= m.next {
		return m, 28
	}
	if len(m.objects) == 64 {
		return m, 20
	}
	m.objects = slices.Concat(m.objects, []Object{{o.Num, o.Name, o.Plan, deep(o.Places)}})
	m.last = o.Num
	return m, 0
}

func (m model) move(o Op) (model, api.Errno) {
	at := m.numbered(o.Num)
	if at < 0 || o.Stripe < 0 || o.Stripe >= m.objects[at].Plan.Count || o.Slot < 0 || o.Slot >= m.slots {
		return m, 6
	}
	places := deep(m.objects[at].Places)
	was := places[o.Stripe][o.Slot]
	places[o.Stripe][o.Slot] = o.To
	if !m.fits(places[o.Stripe]) {
		return m, 1
	}
	if o.To.Gen <= was.Gen {
		return m, 28
	}
	m.objects = slices.Clone(m.objects)
	m.objects[at].Places = places
	return m, 0
}

// plain tells whether a name is right.
func plain(name string) bool {
	const right = "!\"#$%&'()*+,-./0123456789:;<=>?@ABCDEFGHIJKLMNOPQRSTUVWXYZ[\\]^_`abcdefghijklmnopqrstuvwxyz{|}~"
	for _, c := range []byte(name) {
		if strings.IndexByte(right, c) < 0 {
			return false
		}
	}
	return 0 < len(name) && len(name) < 65
}

// fits tells whether a stripe may have these places.
func (m model) fits(l []Place) bool {
	for i, p := range l {
		if p.Node < 0 || p.Node >= m.nodes {
			return false
		}
		for _, q := range l[:i] {
			if q.Node == p.Node {
				return false
			}
		}
	}
	return len(l) == m.slots
}

// deep returns places that share nothing with these.
func deep(places [][]Place) [][]Place {
	var all [][]Place
	for _, l := range places {
		all = append(all, append([]Place{}, l...))
	}
	return all
}

// alike tells whether two objects are the same ones.
func alike(a, b Object) bool {
	return a.Num == b.Num && a.Name == b.Name && a.Plan == b.Plan &&
		slices.EqualFunc(a.Places, b.Places, func(x, y []Place) bool { return slices.Equal(x, y) })
}

// is checks an answer of Find, At or Numbered.
func is(t *testing.T, what string, got Object, ok bool, want Object) {
	t.Helper()
	if !alike(got, want) || !ok {
		t.Errorf("%s: %v, %t; want %v, true", what, got, ok, want)
	}
}

// isnt checks an answer of Find, At or Numbered that tells that there is no object.
func isnt(t *testing.T, what string, got Object, ok bool) {
	t.Helper()
	if got.Num != 0 || got.Name != "" || got.Plan != (stripe.Plan{}) || got.Places != nil || ok {
		t.Errorf("%s: %v, %t; want %v, false", what, got, ok, Object{})
	}
}

// holds checks that a table tells all that its model tells.
func holds(t *testing.T, what string, x *Table, m model) {
	t.Helper()
	want := m.sorted()
	if x.Len() != len(want) || x.Next() != m.next {
		t.Errorf("%s: Len is %d, Next is %d; want %d, %d", what, x.Len(), x.Next(), len(want), m.next)
	}
	var names []string
	for i, o := range want {
		names = append(names, o.Name)
		got, ok := x.At(i)
		is(t, fmt.Sprintf("%s: At(%d)", what, i), got, ok, o)
		got, ok = x.Find(o.Name)
		is(t, fmt.Sprintf("%s: Find(%s)", what, o.Name), got, ok, o)
		got, ok = x.Numbered(o.Num)
		is(t, fmt.Sprintf("%s: Numbered(%d)", what, o.Num), got, ok, o)
		lacks(t, what, x, m, []string{o.Name + "a", o.Name[1:], o.Name + "\x00"}, []uint32{o.Num - 1, o.Num + 1, ^o.Num})
	}
	if got := x.Names(); !slices.Equal(got, names) {
		t.Errorf("%s: Names is %q, want %q", what, got, names)
	}
	if got := x.Use(); !slices.Equal(got, m.use()) {
		t.Errorf("%s: Use is %d, want %d", what, got, m.use())
	}
	if got := x.Bytes(); !bytes.Equal(got, m.bytes()) {
		t.Errorf("%s: Bytes is %x, want %x", what, got, m.bytes())
	}
	for _, i := range append([]int{len(want), len(want) + 1, 64}, greats...) {
		got, ok := x.At(i)
		isnt(t, fmt.Sprintf("%s: At(%d)", what, i), got, ok)
	}
	lacks(t, what, x, m, []string{"", "a", "aa", "b", "~", strings.Repeat("a", 65)}, []uint32{0, 1, 2, m.next - 1, m.next, m.last, m.last + 1, math.MaxUint32})
}

// lacks checks that the table tells of none of these names and numbers that the model doesn't have.
func lacks(t *testing.T, what string, x *Table, m model, names []string, nums []uint32) {
	t.Helper()
	for _, name := range names {
		if m.named(name) < 0 {
			got, ok := x.Find(name)
			isnt(t, fmt.Sprintf("%s: Find(%s)", what, name), got, ok)
		}
	}
	for _, num := range nums {
		if m.numbered(num) < 0 {
			got, ok := x.Numbered(num)
			isnt(t, fmt.Sprintf("%s: Numbered(%d)", what, num), got, ok)
		}
	}
}

// orders hands over each order of the numbers from 0 to n - 1.
func orders(n int, do func(order []int)) {
	order := make([]int, n)
	for i := range order {
		order[i] = i
	}
	var rest func(at int)
	rest = func(at int) {
		if at == n {
			do(order)
			return
		}
		for i := at; i < n; i++ {
			order[at], order[i] = order[i], order[at]
			rest(at + 1)
			order[at], order[i] = order[i], order[at]
		}
	}
	rest(0)
}

// full makes a table of so many objects, of the names n00, n01 and so on, with every second number from 2 on; 200 are begun.
func full(t *testing.T, n int) *Table {
	t.Helper()
	x := begins(t, 200)
	for i := range n {
		does(t, x, put(uint32(2*i+2), fmt.Sprintf("n%02d", i), row(i%4, (i+1)%4)))
	}
	return x
}

// P20.1

func TestKinds(t *testing.T) {
	if Begin != 1 || Commit != 2 || Remove != 3 || Move != 4 {
		t.Errorf("the kinds are %d, %d, %d, %d", Begin, Commit, Remove, Move)
	}
}

func TestNew(t *testing.T) {
	for _, slots := range append([]int{0, 1, 2, 3, 12, 23, 24, 25, 26, 31, 32, 33, 48}, greats...) {
		for _, nodes := range append([]int{0, 1, 2, 3, 16, 23, 24, 25, 31, 32, 33, 34, 64}, greats...) {
			x, e := New(slots, nodes)
			if 1 <= slots && slots <= 24 && 1 <= nodes && nodes <= 32 {
				if x == nil || e != 0 {
					t.Fatalf("New(%d, %d): %v, error %d", slots, nodes, x, e)
				}
				holds(t, fmt.Sprintf("New(%d, %d)", slots, nodes), x, model{slots: slots, nodes: nodes, next: 1})
			} else if x != nil || e != 1 {
				t.Errorf("New(%d, %d): %v, error %d; want nil, 1", slots, nodes, x, e)
			}
		}
	}
}

func TestNewTable(t *testing.T) {
	x := with(t, 3, 5)
	for range 2 {
		if x.Len() != 0 || x.Next() != 1 || len(x.Names()) != 0 {
			t.Errorf("Len is %d, Next is %d, Names is %q", x.Len(), x.Next(), x.Names())
		}
		if got := x.Use(); !slices.Equal(got, []int{0, 0, 0, 0, 0}) {
			t.Errorf("Use is %d", got)
		}
		if got := x.Bytes(); !bytes.Equal(got, []byte{1, 0, 0, 0, 0, 0, 0, 0, 0}) {
			t.Errorf("Bytes is %x", got)
		}
		o, ok := x.Find("")
		isnt(t, "Find of no name", o, ok)
		o, ok = x.Find("a")
		isnt(t, "Find", o, ok)
		o, ok = x.At(0)
		isnt(t, "At", o, ok)
		for _, num := range []uint32{0, 1, 2, math.MaxUint32} {
			o, ok = x.Numbered(num)
			isnt(t, "Numbered", o, ok)
		}
	}
}

// count returns the numbers from from on, so many.
func count(from, n int) []int {
	var l []int
	for i := range n {
		l = append(l, from+i)
	}
	return l
}

// A table takes stripes of just as many slots as it was made for, on just as many nodes.
func TestSlotsAndNodesOfATable(t *testing.T) {
	for slots := 1; slots <= 24; slots++ {
		for nodes := 1; nodes <= 32; nodes++ {
			x := with(t, slots, nodes, begun(1), begun(2), begun(3))
			if slots > nodes {
				refuses(t, "too few nodes", x, put(1, "a", row(count(0, slots)...)), 1)
				does(t, x, put(1, "a"))
				continue
			}
			refuses(t, "a slot more", x, put(1, "a", row(count(0, slots+1)...)), 1)
			refuses(t, "a slot less", x, put(1, "a", row(count(0, slots-1)...)), 1)
			refuses(t, "a node too far", x, put(1, "a", row(count(nodes-slots+1, slots)...)), 1)
			refuses(t, "a node below 0", x, put(1, "a", row(count(-1, slots)...)), 1)
			does(t, x, put(1, "a", row(count(0, slots)...)), put(2, "b", row(count(nodes-slots, slots)...)))
			m := model{slots: slots, nodes: nodes, next: 4, last: 2, objects: []Object{
				{1, "a", planned(1), [][]Place{row(count(0, slots)...)}},
				{2, "b", planned(1), [][]Place{row(count(nodes-slots, slots)...)}},
			}}
			holds(t, fmt.Sprintf("%d slots, %d nodes", slots, nodes), x, m)
		}
	}
}

func TestRightName(t *testing.T) {
	for _, c := range []struct {
		name string
		want bool
	}{
		{"", false},
		{"a", true},
		{"!", true},
		{"~", true},
		{" ", false},
		{"\x7F", false},
		{"a/b.c", true},
		{"a b", false},
		{"a\n", false},
		{"\x00", false},
		{"\u00E4", false},
		{"\xFF", false},
		{strings.Repeat("a", 2), true},
		{strings.Repeat("a", 63), true},
		{strings.Repeat("a", 64), true},
		{strings.Repeat("a", 65), false},
		{strings.Repeat("a", 66), false},
		{strings.Repeat("a", 128), false},
		{strings.Repeat("a", 256), false},
		{strings.Repeat("a", 256+1), false},
		{strings.Repeat("a", 65536), false},
		{strings.Repeat("a", 65536+1), false},
		{strings.Repeat("~", 64), true},
		{strings.Repeat("!", 64), true},
		{strings.Repeat("\u00E4", 32), false},
		{strings.Repeat(" ", 65), false},
	} {
		if got := RightName(c.name); got != c.want {
			t.Errorf("RightName(%q): %t, want %t", c.name, got, c.want)
		}
	}
}

// Any byte, alone, or at any place of a name of any length.
func TestRightNameOfAnyByte(t *testing.T) {
	for c := range 256 {
		want := 0x21 <= c && c <= 0x7E
		for _, size := range []int{1, 2, 3, 63, 64} {
			for _, at := range []int{0, 1, size / 2, size - 2, size - 1} {
				b := bytes.Repeat([]byte("a"), size)
				b[max(0, min(at, size-1))] = byte(c)
				if got := RightName(string(b)); got != want {
					t.Errorf("RightName(%q): %t, want %t", b, got, want)
				}
			}
		}
	}
}

func TestLenAndNext(t *testing.T) {
	x := with(t, 2, 4)
	for _, c := range []struct {
		o    Op
		len  int
		next uint32
	}{
		{begun(1), 0, 2},
		{put(1, "b", row(0, 1)), 1, 2},
		{begun(2), 1, 3},
		{begun(3), 1, 4},
		{put(3, "a", row(0, 1)), 2, 4},
		{moved(3, 0, 0, 2, 1), 2, 4},
		{gone("b"), 1, 4},
		{begun(4), 1, 5},
		{gone("a"), 0, 5},
	} {
		does(t, x, c.o)
		if x.Len() != c.len || x.Next() != c.next {
			t.Errorf("%v: Len is %d, Next is %d; want %d, %d", c.o, x.Len(), x.Next(), c.len, c.next)
		}
	}
}

func TestFindAtNumbered(t *testing.T) {
	x := begins(t, 4, put(1, "m", row(0, 1)), put(3, "b", row(2, 3), row(1, 0)), put(4, "z"))
	m := Object{1, "m", planned(1), [][]Place{row(0, 1)}}
	b := Object{3, "b", planned(2), [][]Place{row(2, 3), row(1, 0)}}
	z := Object{4, "z", planned(0), nil}
	for range 2 {
		for i, want := range []Object{b, m, z} {
			o, ok := x.At(i)
			is(t, "At", o, ok, want)
			o, ok = x.Find(want.Name)
			is(t, "Find", o, ok, want)
			o, ok = x.Numbered(want.Num)
			is(t, "Numbered", o, ok, want)
		}
		for _, i := range append([]int{-2, -1, 3, 4, 64}, greats...) {
			o, ok := x.At(i)
			isnt(t, "At", o, ok)
		}
		for _, name := range []string{"", "a", "bb", "B", "c", "l", "mm", "n", "y", "zz", "~", "\xFF", "b\x00"} {
			o, ok := x.Find(name)
			isnt(t, "Find", o, ok)
		}
		for _, num := range []uint32{0, 2, 5, 6, 1 + 256, 3 + 65536, 1<<31 + 1, math.MaxUint32} {
			o, ok := x.Numbered(num)
			isnt(t, "Numbered", o, ok)
		}
	}
	does(t, x, gone("m"))
	o, ok := x.Find("m")
	isnt(t, "Find behind Remove", o, ok)
	o, ok = x.Numbered(1)
	isnt(t, "Numbered behind Remove", o, ok)
	o, ok = x.At(1)
	is(t, "At behind Remove", o, ok, z)
	o, ok = x.At(2)
	isnt(t, "At behind Remove", o, ok)
}

// Whatever the order of the Commits was, names rise byte by byte.
func TestNames(t *testing.T) {
	for _, names := range [][]string{
		{"a", "b", "c", "d", "e", "f"},
		{"a", "aa", "aaa", "ab", "b", "ba"},
		{"a", "a!", "aa", "a~", "b", "b!"},
		{"!", "0", "A", "Z", "a", "~"},
		{"!!", "B", "Ba", "_", "b", "ba"},
		{"1", "10", "2", "3", "30", "31"},
		{"a-b", "a.b", "a/b", "a0b", "aAb", "a_b"},
		{strings.Repeat("a", 61), strings.Repeat("a", 62), strings.Repeat("a", 63), strings.Repeat("a", 64), strings.Repeat("a", 63) + "b", strings.Repeat("a", 62) + "b"},
	} {
		orders(len(names), func(order []int) {
			x := begins(t, len(names))
			for i, at := range order {
				does(t, x, put(uint32(i+1), names[at]))
			}
			if got := x.Names(); !slices.Equal(got, names) {
				t.Errorf("Names behind the order %d is %q, want %q", order, got, names)
			}
			for i, at := range order {
				o, ok := x.At(at)
				is(t, "At", o, ok, Object{Num: uint32(i + 1), Name: names[at], Plan: planned(0)})
				o, ok = x.Find(names[at])
				is(t, "Find", o, ok, Object{Num: uint32(i + 1), Name: names[at], Plan: planned(0)})
			}
			does(t, x, gone(names[order[0]]))
			left := slices.Concat(names[:order[0]], names[order[0]+1:])
			if got := x.Names(); !slices.Equal(got, left) {
				t.Errorf("Names behind Remove is %q, want %q", got, left)
			}
			if t.Failed() {
				t.FailNow()
			}
		})
	}
}

func TestUse(t *testing.T) {
	x := begins(t, 5)
	for _, c := range []struct {
		o    Op
		want []int
	}{
		{begun(6), []int{0, 0, 0, 0}},
		{put(1, "a"), []int{0, 0, 0, 0}},
		{put(2, "b", row(1, 3)), []int{0, 1, 0, 1}},
		{put(3, "c", row(1, 2), row(2, 1), row(1, 0)), []int{1, 4, 2, 1}},
		{moved(2, 0, 0, 0, 1), []int{2, 3, 2, 1}},
		{moved(3, 2, 1, 3, 1), []int{1, 3, 2, 2}},
		{moved(3, 2, 1, 3, 2), []int{1, 3, 2, 2}},
		{gone("a"), []int{1, 3, 2, 2}},
		{put(4, "a", row(3, 2)), []int{1, 3, 3, 3}},
		{gone("c"), []int{1, 0, 1, 2}},
		{gone("b"), []int{0, 0, 1, 1}},
		{gone("a"), []int{0, 0, 0, 0}},
	} {
		does(t, x, c.o)
		for range 2 {
			if got := x.Use(); !slices.Equal(got, c.want) {
				t.Errorf("%v: Use is %d, want %d", c.o, got, c.want)
			}
		}
	}
}

func TestUseOfAsManySlotsAsThereMayBe(t *testing.T) {
	x := with(t, 24, 24)
	var places [][]Place
	for range 32 {
		places = append(places, row(count(0, 24)...))
	}
	want := make([]int, 24)
	for i := range 64 {
		does(t, x, begun(uint32(i+1)), put(uint32(i+1), fmt.Sprint(i), places...))
		for n := range want {
			want[n] += 32
		}
		if got := x.Use(); !slices.Equal(got, want) {
			t.Errorf("Use is %d, want %d", got, want)
		}
	}
}

// P20.2

func TestBegin(t *testing.T) {
	x := with(t, 2, 4)
	m := model{slots: 2, nodes: 4}
	for next := uint32(1); next <= 600; next++ {
		m.next = next
		holds(t, "Begin", x, m)
		for _, num := range []uint32{0, next - 1, next + 1, next + 2, next + 256, next + 65536, next ^ 1<<31, math.MaxUint32 - 1, math.MaxUint32} {
			if e := x.Apply(begun(num)); e != 28 {
				t.Errorf("Begin %d of next %d: error %d, want 28", num, next, e)
			}
		}
		holds(t, "Begin of others", x, m)
		does(t, x, begun(next))
	}
}

func TestBeginChangesNextAlone(t *testing.T) {
	x := begins(t, 3, put(2, "a", row(0, 1)))
	m := model{slots: 2, nodes: 4, next: 4, last: 2, objects: []Object{{2, "a", planned(1), [][]Place{row(0, 1)}}}}
	holds(t, "ahead", x, m)
	for _, num := range []uint32{0, 1, 2, 3, 5, 6, math.MaxUint32} {
		refuses(t, "Begin", x, begun(num), 28)
	}
	does(t, x, begun(4))
	m.next = 5
	holds(t, "behind", x, m)
}

// Nobody waits for as many Begins, so that the numbers are set here.
func TestBeginOfTheGreatest(t *testing.T) {
	for _, next := range []uint32{255, 256, 65535, 65536, 1<<31 - 1, 1 << 31, 1<<32 - 3, 1<<32 - 2} {
		x := with(t, 2, 4)
		x.next = next
		refuses(t, "one below", x, begun(next-1), 28)
		refuses(t, "one above", x, begun(next+1), 28)
		does(t, x, begun(next))
		if x.Next() != next+1 {
			t.Errorf("Next is %d, want %d", x.Next(), next+1)
		}
	}
	x := with(t, 2, 4)
	x.next = 1<<32 - 2
	does(t, x, begun(1<<32-2), put(1<<32-2, "a", row(0, 1)))
	m := model{slots: 2, nodes: 4, next: 1<<32 - 1, last: 1<<32 - 2, objects: []Object{{1<<32 - 2, "a", planned(1), [][]Place{row(0, 1)}}}}
	holds(t, "the greatest", x, m)
	for _, num := range []uint32{1<<32 - 1, 0, 1, 1<<32 - 2} {
		refuses(t, "no more", x, begun(num), 28)
	}
	refuses(t, "never begun", x, put(1<<32-1, "b"), 28)
	does(t, x, moved(1<<32-2, 0, 0, 2, 1), gone("a"))
	refuses(t, "passed", x, put(1<<32-2, "a"), 28)
}

func TestCommit(t *testing.T) {
	x := begins(t, 3)
	m := model{slots: 2, nodes: 4, next: 4}
	does(t, x, put(1, "b", row(0, 1)))
	m.last = 1
	m.objects = append(m.objects, Object{1, "b", planned(1), [][]Place{row(0, 1)}})
	holds(t, "one", x, m)
	places := [][]Place{{{3, 7}, {2, math.MaxUint32}}, {{0, 0}, {3, 1}}}
	does(t, x, Op{Kind: Commit, Num: 3, Name: "a", Plan: stripe.Plan{Length: 11, Count: 2, Piece: 5}, Places: places})
	m.last = 3
	m.objects = append(m.objects, Object{3, "a", stripe.Plan{Length: 11, Count: 2, Piece: 5}, places})
	holds(t, "two", x, m)
}

func TestCommitOfAName(t *testing.T) {
	for _, name := range []string{"", " ", "a ", " a", "a b", "\x20", "\x7F", "a\x7F", "\x7Fa", "a\x7Fb", "a\x00", "\u00E4", "\xFF", "\n", strings.Repeat("a", 65), strings.Repeat("a", 321), strings.Repeat("a", 65537)} {
		x := begins(t, 1)
		refuses(t, "a wrong name", x, put(1, name, row(0, 1)), 1)
		refuses(t, "a wrong name", x, put(1, name), 1)
	}
	for _, name := range []string{"!", "~", "a", "a!", "!a", "a!b", "a~", "~a", "a~b", "..", "/", strings.Repeat("a", 63), strings.Repeat("~", 64), strings.Repeat("!", 64)} {
		x := begins(t, 1, put(1, name, row(0, 1)))
		o, ok := x.Find(name)
		is(t, "Find", o, ok, Object{1, name, planned(1), [][]Place{row(0, 1)}})
	}
}

func TestCommitOfAPlan(t *testing.T) {
	right := func(what string, p stripe.Plan) {
		t.Helper()
		o := Op{Kind: Commit, Num: 1, Name: "a", Plan: p, Places: slices.Repeat([][]Place{row(0, 1)}, max(p.Count, 0))}
		x := begins(t, 1, o)
		got, ok := x.Find("a")
		is(t, what, got, ok, Object{1, "a", p, o.Places})
	}
	wrong := func(what string, p stripe.Plan) {
		t.Helper()
		for _, n := range []int{0, 1, 32, p.Count} {
			if n >= 0 && n < 70000 {
				o := Op{Kind: Commit, Num: 1, Name: "a", Plan: p, Places: slices.Repeat([][]Place{row(0, 1)}, n)}
				refuses(t, what, begins(t, 1), o, 1)
			}
		}
	}
	for _, n := range []int{0, 1, 2, 255, 256, 8192, 16383, 16384} {
		right("a Length", stripe.Plan{Length: n, Count: 1, Piece: 3})
	}
	for _, n := range append([]int{-2, 16385, 16386, 32768}, greats...) {
		wrong("a Length", stripe.Plan{Length: n, Count: 1, Piece: 3})
	}
	for n := range 33 {
		right("a Count", stripe.Plan{Length: 9, Count: n, Piece: 3})
	}
	for _, n := range append([]int{-2, 33, 34, 64, 256, 65536 + 1}, greats...) {
		wrong("a Count", stripe.Plan{Length: 9, Count: n, Piece: 3})
	}
	for n := 1; n <= 256; n++ {
		right("a Piece", stripe.Plan{Length: 9, Count: 1, Piece: n})
	}
	for _, n := range append([]int{0, -2, 257, 258, 512}, greats...) {
		wrong("a Piece", stripe.Plan{Length: 9, Count: 1, Piece: n})
	}
	right("the least", stripe.Plan{Piece: 1})
	right("the greatest", stripe.Plan{Length: 16384, Count: 32, Piece: 256})
	wrong("none", stripe.Plan{})
	// Whether a plan's parts go together is not the table's to say.
	right("much in none", stripe.Plan{Length: 16384, Count: 0, Piece: 1})
	right("none in much", stripe.Plan{Length: 0, Count: 32, Piece: 256})
}

// There are just Count stripes' places.
func TestCommitOfCount(t *testing.T) {
	for count := range 33 {
		for n := range 36 {
			x := begins(t, 1)
			o := Op{Kind: Commit, Num: 1, Name: "a", Plan: planned(count), Places: slices.Repeat([][]Place{row(0, 1)}, n)}
			if n == count {
				does(t, x, o)
			} else {
				refuses(t, "another Count", x, o, 1)
			}
		}
	}
	for _, places := range [][][]Place{nil, {}} {
		x := begins(t, 1, Op{Kind: Commit, Num: 1, Name: "a", Plan: planned(0), Places: places})
		o, ok := x.At(0)
		is(t, "no places", o, ok, Object{1, "a", planned(0), nil})
	}
}

func TestCommitOfPlaces(t *testing.T) {
	for _, c := range []struct {
		what string
		row  []Place
		want api.Errno
	}{
		{"nodes 0 and 1", row(0, 1), 0},
		{"nodes 1 and 0", row(1, 0), 0},
		{"the first and the last", row(0, 3), 0},
		{"the last and the first", row(3, 0), 0},
		{"the last two", row(3, 2), 0},
		{"the greatest generations", []Place{{1, math.MaxUint32}, {2, math.MaxUint32}}, 0},
		{"none", nil, 1},
		{"no slots", []Place{}, 1},
		{"a slot less", row(0), 1},
		{"a slot more", row(0, 1, 2), 1},
		{"twice as many", row(0, 1, 2, 3), 1},
		{"below 0, first", row(-1, 1), 1},
		{"below 0, last", row(1, -1), 1},
		{"above the last, first", row(4, 1), 1},
		{"above the last, last", row(1, 4), 1},
		{"the greatest of any table", row(1, 31), 1},
		{"above all tables'", row(1, 32), 1},
		{"node 0 twice", row(0, 0), 1},
		{"node 2 twice", row(2, 2), 1},
		{"the last twice", row(3, 3), 1},
		{"twice, of other generations", []Place{{2, 1}, {2, 2}}, 1},
		{"below 0 twice", row(-1, -1), 1},
		{"above the last twice", row(4, 4), 1},
	} {
		good := row(2, 3)
		for _, places := range [][][]Place{{c.row}, {c.row, good}, {good, c.row}, {good, c.row, good}, {c.row, c.row}} {
			x := begins(t, 1)
			if o := put(1, "a", places...); c.want == 0 {
				does(t, x, o)
				got, ok := x.At(0)
				is(t, c.what, got, ok, Object{1, "a", planned(len(places)), places})
			} else {
				refuses(t, c.what, x, o, c.want)
			}
		}
	}
	for _, n := range greats {
		refuses(t, "a node far away", begins(t, 1), put(1, "a", row(n, 0)), 1)
		refuses(t, "a node far away", begins(t, 1), put(1, "a", row(0, 1), row(1, n)), 1)
	}
}

// Wherever in a stripe a node stands twice, it is found; and in another stripe it may stand again.
func TestCommitOfANodeTwice(t *testing.T) {
	for a := range 6 {
		for b := range a {
			x := with(t, 6, 32, begun(1))
			l := row(31, 5, 0, 17, 30, 1)
			l[a].Node = l[b].Node
			l[a].Gen, l[b].Gen = uint32(a), uint32(b)
			refuses(t, "twice", x, put(1, "a", l), 1)
			refuses(t, "twice", x, put(1, "a", row(0, 1, 2, 3, 4, 5), l), 1)
			refuses(t, "twice", x, put(1, "a", l, row(0, 1, 2, 3, 4, 5)), 1)
		}
	}
	x := with(t, 3, 3, begun(1), put(1, "a", row(0, 1, 2), row(0, 1, 2), row(2, 1, 0)))
	if got := x.Use(); !slices.Equal(got, []int{3, 3, 3}) {
		t.Errorf("Use is %d", got)
	}
}

func TestCommitTwice(t *testing.T) {
	x := begins(t, 6, put(2, "b", row(0, 1)), put(3, "c", row(0, 1)))
	refuses(t, "the name", x, put(4, "b", row(0, 1)), 7)
	refuses(t, "the name", x, put(4, "c", row(2, 3)), 7)
	refuses(t, "the number", x, put(3, "d", row(0, 1)), 7)
	refuses(t, "a lower number", x, put(2, "d", row(0, 1)), 7)
	refuses(t, "both", x, put(2, "b", row(0, 1)), 7)
	refuses(t, "both, of two objects", x, put(2, "c", row(0, 1)), 7)
	refuses(t, "both, of two objects", x, put(3, "b"), 7)
	does(t, x, put(4, "bb", row(0, 1)), put(5, "B", row(0, 1)), put(6, "d", row(0, 1)))
}

func TestCommitOfAStaleNumber(t *testing.T) {
	x := begins(t, 6, put(4, "d", row(0, 1)))
	for _, num := range []uint32{0, 1, 2, 3, 7, 8, 5 + 256, 5 + 65536, 1<<31 + 5, math.MaxUint32 - 1, math.MaxUint32} {
		refuses(t, "a stale number", x, put(num, "a", row(0, 1)), 28)
	}
	does(t, x, put(6, "f", row(0, 1)))
	refuses(t, "passed over", x, put(5, "e", row(0, 1)), 28)
	refuses(t, "Next", x, put(7, "e", row(0, 1)), 28)
	does(t, x, begun(7), put(7, "e", row(0, 1)))

	x = with(t, 2, 4)
	for _, num := range []uint32{0, 1, 2, math.MaxUint32} {
		refuses(t, "nothing was begun", x, put(num, "a", row(0, 1)), 28)
	}
	does(t, x, begun(1))
	refuses(t, "0", x, put(0, "a", row(0, 1)), 28)
	does(t, x, put(1, "a", row(0, 1)))
}

// A number that was an object's, or was passed over, is never one's again, also when the objects are gone.
func TestLastStays(t *testing.T) {
	x := begins(t, 5, put(1, "a"), put(3, "c"), put(4, "d"))
	does(t, x, gone("d"))
	refuses(t, "the last one", x, put(4, "d"), 28)
	does(t, x, gone("c"), gone("a"))
	for num := range uint32(5) {
		refuses(t, "below last", x, put(num, "a"), 28)
		refuses(t, "below last", x, put(num, "e"), 28)
	}
	holds(t, "empty", x, model{slots: 2, nodes: 4, next: 6, last: 4})
	does(t, x, put(5, "d"))
	holds(t, "one", x, model{slots: 2, nodes: 4, next: 6, last: 5, objects: []Object{{5, "d", planned(0), nil}}})
}

func TestCommitOfTooMany(t *testing.T) {
	x := full(t, 63)
	refuses(t, "of 63", x, put(126, "new"), 7)
	does(t, x, put(128, "n63", row(0, 1)))
	if x.Len() != 64 {
		t.Fatalf("Len is %d", x.Len())
	}
	refuses(t, "the 65th", x, put(129, "new", row(0, 1)), 20)
	refuses(t, "the 65th", x, put(199, "a"), 20)
	refuses(t, "the 65th", x, put(200, "~"), 20)
	does(t, x, gone("n00"))
	does(t, x, put(129, "new", row(0, 1)))
	refuses(t, "again the 65th", x, put(130, "n00", row(0, 1)), 20)
	does(t, x, gone("new"), put(131, "n00", row(0, 1)))
	refuses(t, "again the 65th", x, put(132, "new", row(0, 1)), 20)
	does(t, x, begun(201), moved(131, 0, 0, 3, 1))
	if x.Len() != 64 {
		t.Errorf("Len is %d", x.Len())
	}
}

// Of several errors the first one is told.
func TestFirstErrorOfCommit(t *testing.T) {
	wrong := stripe.Plan{Length: 9, Count: 1}
	for _, c := range []struct {
		what       string
		o          Op
		want, room api.Errno
	}{
		{"a wrong name, a number that is there", put(2, "n 1", row(0, 1)), 1, 1},
		{"a wrong name, a stale number", put(201, "", row(0, 1)), 1, 1},
		{"a wrong name", put(199, strings.Repeat("a", 65), row(0, 1)), 1, 1},
		{"a wrong plan, a name that is there", Op{Kind: Commit, Num: 199, Name: "n01", Plan: wrong, Places: [][]Place{row(0, 1)}}, 1, 1},
		{"a wrong plan, a number that is there", Op{Kind: Commit, Num: 2, Name: "new", Plan: wrong, Places: [][]Place{row(0, 1)}}, 1, 1},
		{"a wrong plan, a stale number", Op{Kind: Commit, Num: 1, Name: "new", Plan: wrong, Places: [][]Place{row(0, 1)}}, 1, 1},
		{"a wrong plan", Op{Kind: Commit, Num: 199, Name: "new", Plan: wrong, Places: [][]Place{row(0, 1)}}, 1, 1},
		{"too few stripes, a name that is there", Op{Kind: Commit, Num: 199, Name: "n01", Plan: planned(1)}, 1, 1},
		{"wrong places, a name that is there", put(199, "n01", row(0, 0)), 1, 1},
		{"wrong places, a number that is there", put(2, "new", row(0, 4)), 1, 1},
		{"wrong places, a stale number", put(201, "new", row(0)), 1, 1},
		{"wrong places", put(199, "new", row(-1, 0)), 1, 1},
		{"a name and a number that are there", put(2, "n01", row(0, 1)), 7, 7},
		{"a name that is there, a number that wasn't begun", put(201, "n01", row(0, 1)), 7, 7},
		{"a name that is there, a number passed over", put(1, "n01", row(0, 1)), 7, 7},
		{"a name that is there", put(199, "n01", row(0, 1)), 7, 7},
		{"a number that is there", put(2, "new", row(0, 1)), 7, 7},
		{"a number that wasn't begun", put(201, "new", row(0, 1)), 28, 28},
		{"a number passed over", put(1, "new", row(0, 1)), 28, 28},
		{"number 0", put(0, "new", row(0, 1)), 28, 28},
		{"nothing but the 65th", put(199, "new", row(0, 1)), 20, 0},
	} {
		refuses(t, c.what, full(t, 64), c.o, c.want)
		x := full(t, 63)
		if c.room != 0 {
			refuses(t, c.what+", with room", x, c.o, c.room)
		} else {
			does(t, x, c.o)
		}
	}
}

// P20.3

func TestRemove(t *testing.T) {
	x := begins(t, 5, put(1, "b", row(0, 1)), put(2, "a", row(1, 2)), put(3, "c", row(2, 3)))
	m := model{slots: 2, nodes: 4, next: 6, last: 3, objects: []Object{
		{1, "b", planned(1), [][]Place{row(0, 1)}},
		{2, "a", planned(1), [][]Place{row(1, 2)}},
		{3, "c", planned(1), [][]Place{row(2, 3)}},
	}}
	holds(t, "three", x, m)
	for _, name := range []string{"", "d", "aa", "B", "b ", "b\x00", "\x7F", strings.Repeat("b", 65)} {
		refuses(t, "never there", x, gone(name), 6)
	}
	does(t, x, gone("b"))
	m.objects = m.objects[1:]
	holds(t, "two", x, m)
	refuses(t, "removed", x, gone("b"), 6)
	does(t, x, gone("c"))
	m.objects = m.objects[:1]
	holds(t, "one", x, m)
	does(t, x, gone("a"))
	m.objects = nil
	holds(t, "none", x, m)
	for _, name := range []string{"a", "b", "c"} {
		refuses(t, "all removed", x, gone(name), 6)
	}
}

func TestRemoveOfNone(t *testing.T) {
	refuses(t, "a new table", with(t, 2, 4), gone("a"), 6)
	refuses(t, "a new table", with(t, 2, 4), gone(""), 6)
	refuses(t, "begun", begins(t, 1), gone("a"), 6)
	refuses(t, "begun", begins(t, 1), Op{Kind: Remove, Num: 1}, 6)
	x := begins(t, 1, put(1, "a"))
	refuses(t, "by number", x, Op{Kind: Remove, Num: 1}, 6)
}

func TestCommitBehindRemove(t *testing.T) {
	x := begins(t, 3, put(1, "a", row(0, 1)), put(2, "b", row(1, 2)), gone("a"))
	refuses(t, "the old number", x, put(1, "a", row(0, 1)), 28)
	refuses(t, "the number of the other one", x, put(2, "a", row(0, 1)), 7)
	does(t, x, put(3, "a", row(2, 3)))
	o, ok := x.Find("a")
	is(t, "Find", o, ok, Object{3, "a", planned(1), [][]Place{row(2, 3)}})
	o, ok = x.Numbered(1)
	isnt(t, "Numbered", o, ok)
	does(t, x, gone("a"), begun(4))
	refuses(t, "the old number", x, put(3, "a", row(0, 1)), 28)
	does(t, x, put(4, "a"))
}

// Each of the objects is removed, and the others stay.
func TestRemoveOfAnyOfMany(t *testing.T) {
	for at := range 64 {
		x, want := full(t, 64), []string{}
		for i := range 64 {
			if i != at {
				want = append(want, fmt.Sprintf("n%02d", i))
			}
		}
		does(t, x, gone(fmt.Sprintf("n%02d", at)))
		if got := x.Names(); !slices.Equal(got, want) {
			t.Errorf("Names is %q", got)
		}
		o, ok := x.Numbered(uint32(2*at + 2))
		isnt(t, "Numbered", o, ok)
	}
}

// three makes a table of 3 slots and 6 nodes with an object a of two stripes, number 2, between two others.
func three(t *testing.T) (*Table, model) {
	t.Helper()
	x := with(t, 3, 6, begun(1), begun(2), begun(3), begun(4))
	l := [][]Place{{{0, 5}, {1, 6}, {2, 7}}, {{5, 0}, {4, 1}, {3, math.MaxUint32}}}
	m := model{slots: 3, nodes: 6, next: 5, last: 4, objects: []Object{
		{1, "b", planned(1), [][]Place{row(0, 1, 2)}},
		{2, "a", planned(2), l},
		{4, "c", planned(0), nil},
	}}
	does(t, x, put(1, "b", row(0, 1, 2)), put(2, "a", deep(l)...), put(4, "c"))
	holds(t, "three", x, m)
	return x, m
}

func TestMove(t *testing.T) {
	x, m := three(t)
	for _, c := range []struct {
		o    Op
		want [][]Place
	}{
		{moved(2, 0, 0, 3, 6), [][]Place{{{3, 6}, {1, 6}, {2, 7}}, {{5, 0}, {4, 1}, {3, math.MaxUint32}}}},
		{moved(2, 0, 0, 3, 7), [][]Place{{{3, 7}, {1, 6}, {2, 7}}, {{5, 0}, {4, 1}, {3, math.MaxUint32}}}},
		{moved(2, 0, 1, 5, 700), [][]Place{{{3, 7}, {5, 700}, {2, 7}}, {{5, 0}, {4, 1}, {3, math.MaxUint32}}}},
		{moved(2, 0, 2, 0, 8), [][]Place{{{3, 7}, {5, 700}, {0, 8}}, {{5, 0}, {4, 1}, {3, math.MaxUint32}}}},
		{moved(2, 0, 1, 2, 701), [][]Place{{{3, 7}, {2, 701}, {0, 8}}, {{5, 0}, {4, 1}, {3, math.MaxUint32}}}},
		{moved(2, 1, 0, 0, math.MaxUint32), [][]Place{{{3, 7}, {2, 701}, {0, 8}}, {{0, math.MaxUint32}, {4, 1}, {3, math.MaxUint32}}}},
		{moved(2, 1, 1, 5, 2), [][]Place{{{3, 7}, {2, 701}, {0, 8}}, {{0, math.MaxUint32}, {5, 2}, {3, math.MaxUint32}}}},
	} {
		does(t, x, c.o)
		m.objects[1].Places = c.want
		holds(t, fmt.Sprint(c.o), x, m)
	}
	refuses(t, "the greatest", x, moved(2, 1, 0, 1, math.MaxUint32), 28)
	does(t, x, moved(1, 0, 2, 5, 1))
	m.objects[0].Places = [][]Place{{{0, 0}, {1, 0}, {5, 1}}}
	holds(t, "the other one", x, m)
}

func TestMoveOfNone(t *testing.T) {
	x, _ := three(t)
	for _, num := range []uint32{0, 3, 5, 6, 2 + 256, 2 + 65536, 1<<31 + 2, math.MaxUint32} {
		refuses(t, "no such number", x, moved(num, 0, 0, 3, 9), 6)
	}
	for _, n := range append([]int{2, 3, 4, 31, 32, 256, 65536}, greats...) {
		refuses(t, "no such stripe", x, moved(2, n, 0, 4, 9), 6)
	}
	for _, n := range append([]int{3, 4, 5, 23, 24, 256, 65536}, greats...) {
		refuses(t, "no such slot", x, moved(2, 0, n, 4, 9), 6)
		refuses(t, "no such slot", x, moved(2, 1, n, 1, 9), 6)
	}
	refuses(t, "one stripe less", x, moved(1, 1, 0, 4, 9), 6)
	refuses(t, "no stripe", x, moved(4, 0, 0, 4, 9), 6)
	does(t, x, gone("a"))
	refuses(t, "removed", x, moved(2, 0, 0, 3, 9), 6)
	refuses(t, "by name", x, Op{Kind: Move, Name: "b", To: Place{4, 9}}, 6)
	refuses(t, "a new table", with(t, 2, 4), moved(1, 0, 0, 0, 1), 6)
	refuses(t, "begun", begins(t, 1), moved(1, 0, 0, 0, 1), 6)
}

func TestMoveToNoPlace(t *testing.T) {
	x, _ := three(t)
	for slot := range 3 {
		for node := range 3 {
			if node != slot {
				refuses(t, "another slot's node", x, moved(2, 0, slot, node, math.MaxUint32), 1)
				refuses(t, "another slot's node", x, moved(1, 0, slot, node, 1), 1)
			}
		}
		for _, node := range append([]int{6, 7, 31, 32, 256}, greats...) {
			refuses(t, "no such node", x, moved(2, 0, slot, node, math.MaxUint32), 1)
		}
	}
	refuses(t, "another slot's node", x, moved(2, 1, 0, 3, 1), 1)
	refuses(t, "another slot's node", x, moved(2, 1, 1, 5, 2), 1)
}

// To its own node, or to one that another stripe or another object has, a slot may move.
func TestMoveToItsOwnNode(t *testing.T) {
	x, m := three(t)
	does(t, x, moved(2, 0, 1, 1, 7), moved(2, 1, 0, 5, 1), moved(2, 0, 2, 3, 8), moved(1, 0, 0, 5, 2))
	m.objects[1].Places = [][]Place{{{0, 5}, {1, 7}, {3, 8}}, {{5, 1}, {4, 1}, {3, math.MaxUint32}}}
	m.objects[0].Places = [][]Place{{{5, 2}, {1, 0}, {2, 0}}}
	holds(t, "moved", x, m)
	// If there are just as many nodes as slots, there is no other one to go to.
	y := with(t, 3, 3, begun(1), put(1, "a", row(2, 0, 1)))
	does(t, y, moved(1, 0, 0, 2, 1))
	refuses(t, "another slot's node", y, moved(1, 0, 0, 0, 2), 1)
	refuses(t, "another slot's node", y, moved(1, 0, 0, 1, 2), 1)
	does(t, y, moved(1, 0, 0, 2, 2))
}

// What a slot has left, another one may go to.
func TestMoveToWhatWasLeft(t *testing.T) {
	x := begins(t, 1, put(1, "a", row(0, 1)))
	refuses(t, "not left yet", x, moved(1, 0, 1, 0, 1), 1)
	does(t, x, moved(1, 0, 0, 2, 1), moved(1, 0, 1, 0, 1), moved(1, 0, 0, 1, 2))
	o, ok := x.At(0)
	is(t, "At", o, ok, Object{1, "a", planned(1), [][]Place{{{1, 2}, {0, 1}}}})
}

func TestMoveOfAGeneration(t *testing.T) {
	for _, was := range gens {
		for _, to := range gens {
			for _, node := range []int{0, 2} {
				x := begins(t, 1, put(1, "a", []Place{{0, was}, {1, 7}}))
				if o := moved(1, 0, 0, node, to); to > was {
					does(t, x, o)
					got, ok := x.At(0)
					is(t, "moved", got, ok, Object{1, "a", planned(1), [][]Place{{{node, to}, {1, 7}}}})
				} else {
					refuses(t, "a stale generation", x, o, 28)
				}
			}
		}
	}
}

// It is the slot's own generation that counts, not another slot's, nor another stripe's.
func TestMoveHeldAgainstItsOwnSlot(t *testing.T) {
	l := [][]Place{{{0, 10}, {1, 20}}, {{2, 30}, {3, 40}}}
	for s := range 2 {
		for slot := range 2 {
			x := begins(t, 1, put(1, "a", l...))
			gen := l[s][slot].Gen
			refuses(t, "the same", x, moved(1, s, slot, 2-2*s+slot, gen), 28)
			refuses(t, "one below", x, moved(1, s, slot, 2-2*s+slot, gen-1), 28)
			does(t, x, moved(1, s, slot, 2-2*s+slot, gen+1))
			refuses(t, "the same, again", x, moved(1, s, slot, 2-2*s+slot, gen+1), 28)
			want := deep(l)
			want[s][slot] = Place{2 - 2*s + slot, gen + 1}
			o, ok := x.At(0)
			is(t, "moved", o, ok, Object{1, "a", planned(2), want})
		}
	}
}

func TestFirstErrorOfMove(t *testing.T) {
	x, _ := three(t)
	for _, c := range []struct {
		what string
		o    Op
		want api.Errno
	}{
		{"no number, no node, stale", moved(3, 0, 0, 6, 0), 6},
		{"no number, another slot's node", moved(9, 0, 0, 1, 9), 6},
		{"no number, stale", moved(0, 0, 0, 3, 0), 6},
		{"no stripe, no node", moved(2, 2, 0, -1, 9), 6},
		{"no stripe, stale", moved(2, -1, 0, 3, 0), 6},
		{"no slot, no node", moved(2, 0, 3, 6, 9), 6},
		{"no slot, another slot's node", moved(2, 0, -1, 1, 9), 6},
		{"no slot, stale", moved(2, 0, 3, 3, 0), 6},
		{"no node, stale", moved(2, 0, 0, 6, 5), 1},
		{"below 0, stale", moved(2, 0, 0, -1, 0), 1},
		{"another slot's node, stale", moved(2, 0, 0, 1, 5), 1},
		{"another slot's node, stale", moved(2, 1, 1, 3, 0), 1},
		{"stale", moved(2, 0, 0, 3, 5), 28},
		{"stale, to its own node", moved(2, 0, 0, 0, 5), 28},
	} {
		refuses(t, c.what, x, c.o, c.want)
	}
}

func TestNoKind(t *testing.T) {
	right := put(3, "new", row(3, 1, 2))
	right.To = Place{5, 9}
	for _, kind := range append([]int{0, 5, 6, 7, 9, 255, 256 + 1, 256 + 2, 256 + 4}, greats...) {
		x, _ := three(t)
		o := right
		o.Kind = kind
		refuses(t, "no such kind", x, o, 1)
		o.Num = 5
		refuses(t, "no such kind", x, o, 1)
		o.Num, o.Name = 2, "a"
		refuses(t, "no such kind", x, o, 1)
		refuses(t, "no such kind", x, Op{Kind: kind}, 1)
		refuses(t, "no such kind", with(t, 1, 1), Op{Kind: kind, Num: 1}, 1)
	}
}

// Nothing is asked of the fields that a kind doesn't have, be they right or wrong.
func TestFieldsThatAKindDoesNotHave(t *testing.T) {
	x, m := three(t)
	for _, o := range []Op{
		{Kind: Begin, Num: 5, Name: "a", Plan: stripe.Plan{Length: -1}, Places: [][]Place{row(9)}, Stripe: -1, Slot: -1, To: Place{-1, 1}},
		{Kind: Commit, Num: 5, Name: "d", Plan: planned(1), Places: [][]Place{row(0, 1, 2)}, Stripe: -1, Slot: 99, To: Place{99, 9}},
		{Kind: Remove, Num: 99, Name: "a", Plan: stripe.Plan{Length: -1}, Places: [][]Place{nil}, Stripe: 99, Slot: -1, To: Place{-1, 1}},
		{Kind: Move, Num: 1, Name: "", Plan: stripe.Plan{Count: 99}, Places: [][]Place{row(9)}, To: Place{5, 1}},
		{Kind: Begin, Num: 6, Name: "z", Plan: planned(0), To: Place{5, 9}},
		{Kind: Move, Num: 1, Name: "c", Plan: planned(0), To: Place{4, 2}},
	} {
		does(t, x, o)
		m, _ = m.apply(o)
		holds(t, fmt.Sprint(o), x, m)
	}
}

// P20.4

func TestBytesOfNoObject(t *testing.T) {
	for _, c := range []struct {
		n    int
		want []byte
	}{
		{0, []byte{1, 0, 0, 0, 0, 0, 0, 0, 0}},
		{1, []byte{2, 0, 0, 0, 0, 0, 0, 0, 0}},
		{254, []byte{255, 0, 0, 0, 0, 0, 0, 0, 0}},
		{255, []byte{0, 1, 0, 0, 0, 0, 0, 0, 0}},
		{65537, []byte{2, 0, 1, 0, 0, 0, 0, 0, 0}},
	} {
		if got := begins(t, c.n).Bytes(); !bytes.Equal(got, c.want) {
			t.Errorf("Bytes of %d begun is %x, want %x", c.n, got, c.want)
		}
	}
	x := begins(t, 300, put(258, "a"), gone("a"))
	if got, want := x.Bytes(), []byte{45, 1, 0, 0, 2, 1, 0, 0, 0}; !bytes.Equal(got, want) {
		t.Errorf("Bytes behind Remove is %x, want %x", got, want)
	}
}

func TestBytesOfNoStripe(t *testing.T) {
	x := begins(t, 2, Op{Kind: Commit, Num: 2, Name: "ab", Plan: stripe.Plan{Length: 0, Count: 0, Piece: 4}})
	want := []byte{
		3, 0, 0, 0, 2, 0, 0, 0, 1,
		2, 0, 0, 0, 2, 0, 'a', 'b', 0, 0, 0, 0, 0, 0, 4, 0,
	}
	if got := x.Bytes(); !bytes.Equal(got, want) {
		t.Errorf("Bytes is %x, want %x", got, want)
	}
}

func TestBytesOfMany(t *testing.T) {
	x := begins(t, 5, put(1, "b", row(0, 1)), put(2, "a", []Place{{3, 7}, {2, 8}}, []Place{{1, 9}, {0, 10}}), put(4, "!"))
	want := []byte{
		6, 0, 0, 0, 4, 0, 0, 0, 3,
		4, 0, 0, 0, 1, 0, '!', 9, 0, 0, 0, 0, 0, 3, 0,
		2, 0, 0, 0, 1, 0, 'a', 9, 0, 0, 0, 2, 0, 3, 0, 3, 7, 0, 0, 0, 2, 8, 0, 0, 0, 1, 9, 0, 0, 0, 0, 10, 0, 0, 0,
		1, 0, 0, 0, 1, 0, 'b', 9, 0, 0, 0, 1, 0, 3, 0, 0, 0, 0, 0, 0, 1, 0, 0, 0, 0,
	}
	for range 2 {
		if got := x.Bytes(); !bytes.Equal(got, want) {
			t.Errorf("Bytes is %x, want %x", got, want)
		}
	}
	does(t, x, moved(2, 1, 0, 3, 256), gone("!"))
	want = []byte{
		6, 0, 0, 0, 4, 0, 0, 0, 2,
		2, 0, 0, 0, 1, 0, 'a', 9, 0, 0, 0, 2, 0, 3, 0, 3, 7, 0, 0, 0, 2, 8, 0, 0, 0, 3, 0, 1, 0, 0, 0, 10, 0, 0, 0,
		1, 0, 0, 0, 1, 0, 'b', 9, 0, 0, 0, 1, 0, 3, 0, 0, 0, 0, 0, 0, 1, 0, 0, 0, 0,
	}
	if got := x.Bytes(); !bytes.Equal(got, want) {
		t.Errorf("Bytes behind Move and Remove is %x, want %x", got, want)
	}
}

// Nobody waits for as many Begins, so that the numbers are set here.
func TestBytesOfGreatNumbers(t *testing.T) {
	x := with(t, 1, 32)
	x.next, x.last = 0xFFFEFDFC, 0x04030201
	long := strings.Repeat("~", 64)
	does(t, x,
		Op{Kind: Commit, Num: 0xFBFAF9F8, Name: long, Plan: stripe.Plan{Length: 16384, Count: 1, Piece: 256}, Places: [][]Place{{{31, 0xFFFFFFFF}}}},
		Op{Kind: Commit, Num: 0xFCFBFAF9, Name: "!", Plan: stripe.Plan{Length: 0x1234, Count: 1, Piece: 255}, Places: [][]Place{{{17, 0xF4F3F2F1}}}},
	)
	want := slices.Concat(
		[]byte{0xFC, 0xFD, 0xFE, 0xFF, 0xF9, 0xFA, 0xFB, 0xFC, 2},
		[]byte{0xF9, 0xFA, 0xFB, 0xFC, 1, 0, '!', 0x34, 0x12, 0, 0, 1, 0, 255, 0, 17, 0xF1, 0xF2, 0xF3, 0xF4},
		[]byte{0xF8, 0xF9, 0xFA, 0xFB, 64, 0}, []byte(long), []byte{0, 64, 0, 0, 1, 0, 0, 1, 31, 255, 255, 255, 255},
	)
	if got := x.Bytes(); !bytes.Equal(got, want) {
		t.Errorf("Bytes is %x, want %x", got, want)
	}
}

func TestBytesOfAFullTable(t *testing.T) {
	x, m := with(t, 24, 32), model{slots: 24, nodes: 32, next: 1}
	for i := range 64 {
		var places [][]Place
		for s := range 32 {
			var l []Place
			for slot := range 24 {
				l = append(l, Place{(slot*5 + s + i) % 32, uint32(i+1) * 0x01030507 * uint32(s+slot)})
			}
			places = append(places, l)
		}
		name := strings.Repeat(string(rune('!'+i*37%64)), 1+i)
		for _, o := range []Op{begun(uint32(i + 1)), put(uint32(i+1), name, places...)} {
			does(t, x, o)
			m, _ = m.apply(o)
		}
	}
	got := x.Bytes()
	if want := 9 + 64*(4+2+4+2+2+32*24*5) + 64*65/2; len(got) != want || len(m.objects) != 64 {
		t.Errorf("there are %d bytes of %d objects, want %d of 64", len(got), len(m.objects), want)
	}
	holds(t, "full", x, m)
}

// P20.5

// distinct checks that no number is an object's twice, and no two slots of a stripe stand on one node.
func distinct(t *testing.T, what string, x *Table) {
	t.Helper()
	nums := map[uint32]bool{}
	for i := range x.Len() {
		o, _ := x.At(i)
		if nums[o.Num] {
			t.Errorf("%s: the number %d is two objects'", what, o.Num)
		}
		nums[o.Num] = true
		for s, l := range o.Places {
			nodes := map[int]bool{}
			for _, p := range l {
				if nodes[p.Node] {
					t.Errorf("%s: two slots of stripe %d of %s stand on node %d", what, s, o.Name, p.Node)
				}
				nodes[p.Node] = true
			}
		}
	}
}

// any makes an operation of any kind, mostly right, with so few names, numbers and nodes that they meet often.
func (d *dice) any(m model) Op {
	names := []string{"a", "b", "aa", "ab", "!", "~", "A"}
	o := Op{Kind: 1 + d.below(4), Num: m.next - uint32(d.below(4)), Name: names[d.below(len(names))], Stripe: d.below(3), Slot: d.below(m.slots)}
	o.Plan = stripe.Plan{Length: d.below(20), Count: d.below(4), Piece: 1 + d.below(3)}
	for range o.Plan.Count {
		o.Places = append(o.Places, d.row(m))
	}
	o.To = Place{d.below(m.nodes), uint32(d.below(12))}
	if o.Kind == Begin && d.below(2) == 0 {
		o.Num = m.next
	}
	if o.Kind == Commit && d.below(2) == 0 {
		o.Num = m.last + 1 + uint32(d.below(2))
	}
	if o.Kind == Move && len(m.objects) > 0 && d.below(2) == 0 {
		o.Num = m.objects[d.below(len(m.objects))].Num
	}
	if d.below(4) == 0 {
		d.spoil(&o, m)
	}
	return o
}

// row makes the places of a stripe.
func (d *dice) row(m model) []Place {
	nodes := count(0, m.nodes)
	for i := range nodes {
		j := d.below(i + 1)
		nodes[i], nodes[j] = nodes[j], nodes[i]
	}
	l := row(nodes[:m.slots]...)
	for i := range l {
		l[i].Gen = uint32(d.below(4))
	}
	return l
}

// spoil makes something of an operation another way, mostly wrong.
func (d *dice) spoil(o *Op, m model) {
	around := func(n int) int { return []int{-1, n, n + 1, greats[d.below(len(greats))]}[d.below(4)] }
	some := len(o.Places) > 0
	switch d.below(12) {
	case 0:
		o.Kind = around(5)
	case 1:
		o.Num = []uint32{0, m.next, m.next + 1, m.last, math.MaxUint32}[d.below(5)]
	case 2:
		o.Name = []string{"", " ", "a ", "\x7F", strings.Repeat("a", 65)}[d.below(5)]
	case 3:
		o.Plan.Length = around(16385)
	case 4:
		o.Plan.Count = around(d.below(4))
	case 5:
		o.Plan.Piece = around(0)
	case 6:
		o.Stripe = around(d.below(4))
	case 7:
		o.Slot = around(m.slots)
	case 8:
		o.To = Place{around(m.nodes), uint32(d.below(12))}
	case 9:
		o.Places = append(o.Places, d.row(m))
	case 10:
		if some {
			o.Places[d.below(len(o.Places))][d.below(m.slots)].Node = around(d.below(m.nodes))
		}
	case 11:
		if some {
			at := d.below(len(o.Places))
			o.Places[at] = o.Places[at][1:]
		}
	}
}

func TestAnyOperations(t *testing.T) {
	d := dice(2000)
	told := map[string]int{}
	for i := range 400 {
		slots, nodes := 1+i%3, 3+i%4
		x, m := with(t, slots, nodes), model{slots: slots, nodes: nodes, next: 1}
		had := map[uint32]bool{}
		for range 150 {
			o := d.any(m)
			want := api.Errno(0)
			m, want = m.apply(o)
			e := x.Apply(o)
			told[fmt.Sprint(min(max(o.Kind, 0), 5), " ", want)]++
			if e != want {
				t.Fatalf("%v: error %d, want %d", o, e, want)
			}
			if e == 0 && o.Kind == Commit {
				if had[o.Num] {
					t.Errorf("%v: the number was an object's", o)
				}
				had[o.Num] = true
			}
			holds(t, fmt.Sprint(o), x, m)
			distinct(t, fmt.Sprint(o), x)
			if t.Failed() {
				t.FailNow()
			}
		}
	}
	for _, way := range []string{"1 0", "1 28", "2 0", "2 1", "2 7", "2 28", "3 0", "3 6", "4 0", "4 1", "4 6", "4 28", "0 1", "5 1"} {
		if told[way] < 50 {
			t.Errorf("kind and error %s came %d times", way, told[way])
		}
	}
}

// Neither is anything asked between two operations, so that nothing asked earlier hides a fault.
func TestAnyOperationsUnasked(t *testing.T) {
	d := dice(2001)
	for i := range 3000 {
		slots, nodes := 1+i%3, 3+i%4
		x, m := with(t, slots, nodes), model{slots: slots, nodes: nodes, next: 1}
		for range d.below(150) {
			o := d.any(m)
			want := api.Errno(0)
			m, want = m.apply(o)
			if e := x.Apply(o); e != want {
				t.Fatalf("%v: error %d, want %d", o, e, want)
			}
		}
		holds(t, "in the end", x, m)
		distinct(t, "in the end", x)
		if t.Failed() {
			t.FailNow()
		}
	}
}

// Many objects, so that the table is full now and then.
func TestAnyOperationsOfManyObjects(t *testing.T) {
	d := dice(2002)
	x, m := with(t, 2, 5), model{slots: 2, nodes: 5, next: 1}
	told := map[api.Errno]int{}
	for i := range 4000 {
		name := fmt.Sprintf("%c%c", '!'+d.below(10), 'a'+d.below(8))
		o := d.any(m)
		switch d.below(8) {
		case 0, 1:
			o = begun(m.next)
		case 2, 3, 4:
			o = put(m.next-1, name, d.row(m))
		case 5:
			if i%400 < 350 {
				o = begun(m.next + 1)
			} else {
				o = gone(name)
			}
		}
		want := api.Errno(0)
		m, want = m.apply(o)
		if e := x.Apply(o); e != want {
			t.Fatalf("%v: error %d, want %d", o, e, want)
		}
		told[want]++
		if i%50 == 0 {
			holds(t, fmt.Sprint(o), x, m)
			distinct(t, fmt.Sprint(o), x)
		}
	}
	holds(t, "in the end", x, m)
	if told[20] < 50 {
		t.Errorf("the table was full %d times", told[20])
	}
}

// Copies of copies, each with operations of its own.
func TestAnyOperationsOfCopies(t *testing.T) {
	d := dice(2003)
	for range 150 {
		all := []*Table{with(t, 2, 4)}
		models := []model{{slots: 2, nodes: 4, next: 1}}
		for range 200 {
			at := d.below(len(all))
			if len(all) < 6 && d.below(20) == 0 {
				all, models = append(all, all[at].Copy()), append(models, models[at])
				continue
			}
			o := d.any(models[at])
			want := api.Errno(0)
			models[at], want = models[at].apply(o)
			if e := all[at].Apply(o); e != want {
				t.Fatalf("%v: error %d, want %d", o, e, want)
			}
			for i := range all {
				if !bytes.Equal(all[i].Bytes(), models[i].bytes()) {
					t.Fatalf("%v of table %d: table %d is %x, want %x", o, at, i, all[i].Bytes(), models[i].bytes())
				}
			}
		}
		for i := range all {
			holds(t, "a copy", all[i], models[i])
			distinct(t, "a copy", all[i])
		}
	}
}

// Copies

func TestCopy(t *testing.T) {
	x, m := three(t)
	c := x.Copy()
	if c == x {
		t.Error("the copy is the table")
	}
	holds(t, "the copy", c, m)
	holds(t, "the table", x, m)
	for range 3 {
		c = c.Copy()
	}
	holds(t, "a copy of copies", c, m)
	n := with(t, 24, 32).Copy()
	holds(t, "a copy of a new one", n, model{slots: 24, nodes: 32, next: 1})
	does(t, n, begun(1), put(1, "a", row(count(8, 24)...)))
}

// What is done to a table changes no copy of it, nor the other way round.
func TestCopyIsOfItsOwn(t *testing.T) {
	for _, ops := range [][]Op{
		{begun(5)},
		{put(3, "0", row(5, 4, 3))},
		{begun(5), put(5, "0", row(5, 4, 3))},
		{begun(5), put(5, "aa", row(5, 4, 3)), begun(6), put(6, "~", row(5, 4, 3))},
		{gone("a")},
		{gone("b")},
		{gone("c")},
		{gone("a"), gone("b"), gone("c")},
		{gone("a"), begun(5), put(5, "a", row(3, 4, 5), row(3, 4, 5))},
		{moved(2, 0, 0, 3, 9)},
		{moved(2, 1, 1, 0, 9), moved(1, 0, 0, 5, 1)},
	} {
		x, m := three(t)
		c := x.Copy()
		changed := m
		for _, o := range ops {
			e := c.Apply(o)
			want := api.Errno(0)
			changed, want = changed.apply(o)
			if e != want {
				t.Errorf("%v: error %d, want %d", o, e, want)
			}
		}
		holds(t, fmt.Sprint("the table, behind ", ops, " of the copy"), x, m)
		holds(t, fmt.Sprint("the copy, behind ", ops), c, changed)
		c = x.Copy()
		for _, o := range ops {
			x.Apply(o)
		}
		holds(t, fmt.Sprint("the copy, behind ", ops, " of the table"), c, m)
		holds(t, fmt.Sprint("the table, behind ", ops), x, changed)
	}
}

// Memory

// scribble writes over all that an object's places can reach.
func scribble(o Object) {
	for i, l := range o.Places {
		l = append(l, Place{-7, 7})
		l = l[:cap(l)]
		for j := range l {
			l[j] = Place{-9, 99}
		}
		for j := range o.Places[i] {
			o.Places[i][j] = Place{-8, 88}
		}
	}
	l := append(o.Places, row(1))
	clear(l[:cap(l)])
	clear(o.Places)
}

func TestAnswersAreTheCallers(t *testing.T) {
	for _, c := range []struct {
		what string
		call func(x *Table)
	}{
		{"Find", func(x *Table) { o, _ := x.Find("a"); scribble(o) }},
		{"At", func(x *Table) { o, _ := x.At(0); scribble(o) }},
		{"At the last", func(x *Table) { o, _ := x.At(1); scribble(o) }},
		{"Numbered", func(x *Table) { o, _ := x.Numbered(2); scribble(o) }},
		{"Names", func(x *Table) { l := x.Names(); l[0] = "z"; l = append(l, "y"); clear(l[:cap(l)]) }},
		{"Use", func(x *Table) { l := x.Use(); l[0] = 99; l = append(l, 98); clear(l[:cap(l)]) }},
		{"Bytes", func(x *Table) { l := x.Bytes(); l[0] = 99; l = append(l, 98); clear(l[:cap(l)]) }},
	} {
		x, m := three(t)
		for range 2 {
			c.call(x)
			holds(t, c.what, x, m)
		}
		does(t, x, moved(2, 0, 0, 3, 9))
		m, _ = m.apply(moved(2, 0, 0, 3, 9))
		c.call(x)
		holds(t, c.what+" behind Move", x, m)
		y := x.Copy()
		c.call(y)
		holds(t, c.what+" of a copy", x, m)
		holds(t, c.what+" of a copy", y, m)
	}
}

// No two lists of one answer, and no two answers, share anything.
func TestAnswersShareNothing(t *testing.T) {
	x, m := three(t)
	o, _ := x.Find("a")
	p, _ := x.Numbered(2)
	q, _ := x.At(0)
	o.Places[0] = append(o.Places[0], Place{77, 77}, Place{78, 78})
	if !slices.Equal(o.Places[1], m.objects[1].Places[1]) {
		t.Errorf("written behind the one stripe, the other one is %v", o.Places[1])
	}
	scribble(o)
	is(t, "another answer", p, true, m.objects[1])
	scribble(p)
	is(t, "another answer", q, true, m.objects[1])
	a, b := x.Names(), x.Names()
	clear(a)
	c, d := x.Use(), x.Use()
	clear(c)
	e, f := x.Bytes(), x.Bytes()
	clear(e)
	if !slices.Equal(b, []string{"a", "b", "c"}) || !slices.Equal(d, m.use()) || !bytes.Equal(f, m.bytes()) {
		t.Errorf("other answers are %q, %d, %x", b, d, f)
	}
}

// Nothing that is done later changes an answer.
func TestAnswersStay(t *testing.T) {
	x, m := three(t)
	o, _ := x.Find("a")
	p, _ := x.At(0)
	q, _ := x.Numbered(2)
	names, use, b := x.Names(), x.Use(), x.Bytes()
	does(t, x, moved(2, 0, 0, 3, 9), moved(2, 1, 1, 0, math.MaxUint32), begun(5))
	does(t, x, put(5, "!", row(0, 1, 2)), gone("a"), gone("b"), begun(6), put(6, "a", row(5, 4, 3), row(5, 4, 3)))
	is(t, "Find", o, true, m.objects[1])
	is(t, "At", p, true, m.objects[1])
	is(t, "Numbered", q, true, m.objects[1])
	if !slices.Equal(names, []string{"a", "b", "c"}) || !slices.Equal(use, m.use()) || !bytes.Equal(b, m.bytes()) {
		t.Errorf("the answers are %q, %d, %x", names, use, b)
	}
}

// The Places of an Op stay the caller's.
func TestPlacesAreTheCallers(t *testing.T) {
	x := begins(t, 2)
	memory := []Place{{0, 1}, {1, 2}, {77, 77}, {2, 3}, {3, 4}, {78, 78}}
	was := slices.Clone(memory)
	places := [][]Place{memory[0:2:3], memory[3:5:6], nil}[:2]
	does(t, x, put(1, "a", places...))
	m := model{slots: 2, nodes: 4, next: 3, last: 1, objects: []Object{{1, "a", planned(2), [][]Place{{{0, 1}, {1, 2}}, {{2, 3}, {3, 4}}}}}}
	holds(t, "done", x, m)
	does(t, x, moved(1, 0, 0, 3, 9), moved(1, 1, 1, 0, 9))
	for _, o := range []Op{moved(1, 0, 0, 3, 9), moved(1, 1, 1, 0, 9)} {
		m, _ = m.apply(o)
	}
	if !slices.Equal(memory, was) || len(places[:3][2]) != 0 {
		t.Errorf("what was handed in is %v, %v", memory, places[:3])
	}
	for i := range memory {
		memory[i] = Place{-5, 55}
	}
	clear(places)
	holds(t, "changed behind Apply", x, m)
}

// One list as the places of two stripes, or of two objects, is a place of each.
func TestPlacesHandedInTwice(t *testing.T) {
	l := row(0, 1)
	places := [][]Place{l, l}
	x := begins(t, 2, put(1, "a", places...), put(2, "b", places...))
	does(t, x, moved(1, 0, 0, 2, 1))
	m := model{slots: 2, nodes: 4, next: 3, last: 2, objects: []Object{
		{1, "a", planned(2), [][]Place{{{2, 1}, {1, 0}}, row(0, 1)}},
		{2, "b", planned(2), [][]Place{row(0, 1), row(0, 1)}},
	}}
	holds(t, "moved", x, m)
	if !slices.Equal(l, row(0, 1)) {
		t.Errorf("what was handed in is %v", l)
	}
	does(t, x, moved(2, 1, 1, 3, 5))
	m, _ = m.apply(moved(2, 1, 1, 3, 5))
	holds(t, "moved again", x, m)
}

// What an answer told may be handed in again.
func TestAnswerHandedInAgain(t *testing.T) {
	x, m := three(t)
	o, _ := x.Find("a")
	does(t, x, begun(5), put(5, "d", o.Places...), moved(5, 0, 0, 3, 9))
	for _, op := range []Op{begun(5), put(5, "d", o.Places...), moved(5, 0, 0, 3, 9)} {
		m, _ = m.apply(op)
	}
	holds(t, "handed in", x, m)
	scribble(o)
	holds(t, "and written over", x, m)
}

func TestRefusedPlacesAreLeftAsTheyAre(t *testing.T) {
	x := begins(t, 3, put(1, "a", row(0, 1)))
	for _, o := range []Op{put(2, "a", row(0, 1)), put(1, "b", row(2, 3)), put(9, "b", row(0, 1)), put(2, "b", row(0, 0)), put(2, "", row(3, 2))} {
		was := deep(o.Places)
		if e := x.Apply(o); e == 0 {
			t.Errorf("%v: no error", o)
		}
		if !slices.Equal(o.Places[0], was[0]) {
			t.Errorf("what was handed in is %v, was %v", o.Places, was)
		}
	}
}

// Rules

func TestTwoTablesDoNotTouch(t *testing.T) {
	x, y := begins(t, 2, put(1, "a", row(0, 1))), begins(t, 2, put(2, "b", row(2, 3)))
	mx := model{slots: 2, nodes: 4, next: 3, last: 1, objects: []Object{{1, "a", planned(1), [][]Place{row(0, 1)}}}}
	my := model{slots: 2, nodes: 4, next: 3, last: 2, objects: []Object{{2, "b", planned(1), [][]Place{row(2, 3)}}}}
	holds(t, "one", x, mx)
	holds(t, "other", y, my)
	does(t, x, put(2, "b", row(1, 0)), begun(3))
	holds(t, "other", y, my)
	does(t, y, gone("b"))
	for _, o := range []Op{put(2, "b", row(1, 0)), begun(3)} {
		mx, _ = mx.apply(o)
	}
	holds(t, "one", x, mx)
}

// A table that New did not make is like none, but that it can be copied.
func TestNoTable(t *testing.T) {
	for what, x := range map[string]*Table{"a nil table": nil, "one that nobody made": {}, "a copy of that": (&Table{}).Copy()} {
		for _, o := range []Op{{}, begun(0), begun(1), put(0, "a"), put(1, "a", row(0)), put(1, ""), gone("a"), gone(""), moved(0, 0, 0, 0, 1), {Kind: 5}, {Kind: -1}} {
			if e := x.Apply(o); e != 3 {
				t.Errorf("%s: %v: error %d, want 3", what, o, e)
			}
			if x.Len() != 0 || x.Next() != 0 || len(x.Names()) != 0 || len(x.Use()) != 0 || len(x.Bytes()) != 0 {
				t.Errorf("%s: %s", what, tells(x))
			}
			for _, i := range append([]int{0, 1}, greats...) {
				got, ok := x.At(i)
				isnt(t, what, got, ok)
				got, ok = x.Numbered(uint32(i))
				isnt(t, what, got, ok)
			}
			for _, name := range []string{"", "a"} {
				got, ok := x.Find(name)
				isnt(t, what, got, ok)
			}
		}
	}
	var x *Table
	if c := x.Copy(); c != nil {
		t.Errorf("the Copy of a nil table is %v", c)
	}
}

// Examples

func TestExampleOfTheChapter(t *testing.T) {
	x := with(t, 2, 4)
	does(t, x, Op{Kind: Begin, Num: 1}, put(1, "a", row(0, 1)))
	o, ok := x.Find("a")
	is(t, "Find", o, ok, Object{1, "a", planned(1), [][]Place{row(0, 1)}})
	refuses(t, "b", x, put(1, "b", row(0, 1)), api.ErrTwice)
}
