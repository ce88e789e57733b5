package heal

import (
	"bytes"
	"math"
	"slices"
	"testing"

	"coldframe/api"
	"coldframe/gf"
	"coldframe/mat"
	"coldframe/msr"
	"coldframe/vand"
)

// dice makes numbers that look as if they were random; the seed tells which.
type dice uint32

// below returns a number from 0 to n - 1.
func (d *dice) below(n int) int {
	*d = *d*1664525 + 1013904223
	return int(*d>>16) % n
}

// list makes n bytes.
func (d *dice) list(n int) []byte {
	l := make([]byte, n)
	for i := range l {
		l[i] = byte(d.below(256))
	}
	return l
}

// mixed returns the numbers of a list in any order.
func (d *dice) mixed(l []int) []int {
	l = slices.Clone(l)
	for i := range l {
		k := d.below(len(l))
		l[i], l[k] = l[k], l[i]
	}
	return l
}

// upTo makes the numbers from 0 to n - 1.
func upTo(n int) []int {
	l := make([]int, n)
	for i := range l {
		l[i] = i
	}
	return l
}

// others makes the slots of a code but the lost one.
func others(c *msr.Code, lost int) []int {
	return slices.DeleteFunc(upTo(c.N()), func(slot int) bool { return slot == lost })
}

// wrongSlots makes numbers that are no slots of a code.
func wrongSlots(c *msr.Code) []int {
	return []int{-1, -2, -c.N(), c.N(), c.N() + 1, 25, 32, 256, 1 << 32, 1<<32 + 1, math.MinInt, math.MaxInt}
}

// code makes a code of arguments that are known to be fit.
func code(t *testing.T, n, k int) *msr.Code {
	t.Helper()
	c, e := msr.New(n, k)
	if e != api.OK || c == nil {
		t.Fatalf("New(%d, %d): %v, %d", n, k, c, e)
	}
	return c
}

// codes makes, for each k, the codes with the fewest and the most shards, and one between.
func codes(t *testing.T) []*msr.Code {
	t.Helper()
	var l []*msr.Code
	for k := 2; k <= 8; k++ {
		for _, n := range []int{2*k - 1, 2*k + 2, 24} {
			l = append(l, code(t, n, k))
		}
	}
	return l
}

// everyCode makes all the codes that there are.
func everyCode(t *testing.T) []*msr.Code {
	t.Helper()
	var l []*msr.Code
	for k := 2; k <= 8; k++ {
		for n := 2*k - 1; n <= 24; n++ {
			l = append(l, code(t, n, k))
		}
	}
	return l
}

// encode makes the shards of a message that is known to be fit.
func encode(t *testing.T, c *msr.Code, b []byte) [][]byte {
	t.Helper()
	l, e := c.Encode(b)
	if e != api.OK || len(l) != c.N() {
		t.Fatalf("n %d, k %d: Encode of %d bytes: %d shards, %d", c.N(), c.K(), len(b), len(l), e)
	}
	return l
}

// pick makes parts of the shards in these slots.
func pick(shards [][]byte, slots ...int) []msr.Part {
	var l []msr.Part
	for _, slot := range slots {
		l = append(l, msr.Part{Slot: slot, Data: shards[slot]})
	}
	return l
}

// fragment makes what a shard that is known to be fit sends.
func fragment(t *testing.T, c *msr.Code, lost int, shard []byte) []byte {
	t.Helper()
	f, e := Fragment(c, lost, shard)
	if e != api.OK || len(f) != len(shard)/c.Parts() {
		t.Fatalf("n %d, k %d: Fragment(%d, %v): %v, %d", c.N(), c.K(), lost, shard, f, e)
	}
	return f
}

// send makes the fragments of the shards in these slots.
func send(t *testing.T, c *msr.Code, lost int, shards [][]byte, slots ...int) []msr.Part {
	t.Helper()
	var l []msr.Part
	for _, slot := range slots {
		l = append(l, msr.Part{Slot: slot, Data: fragment(t, c, lost, shards[slot])})
	}
	return l
}

// fragmented checks that Fragment returns the bytes wanted.
func fragmented(t *testing.T, c *msr.Code, lost int, shard []byte, want ...byte) {
	t.Helper()
	if got := fragment(t, c, lost, shard); !bytes.Equal(got, want) {
		t.Errorf("n %d, k %d: Fragment(%d, %v): %v, want %v", c.N(), c.K(), lost, shard, got, want)
	}
}

// refusedFragment checks that Fragment returns no bytes and ErrArg.
func refusedFragment(t *testing.T, c *msr.Code, lost int, shard []byte) {
	t.Helper()
	if b, e := Fragment(c, lost, shard); len(b) != 0 || e != api.ErrArg {
		t.Errorf("n %d, k %d: Fragment(%d, %v): %v, %d, want none and %d", c.N(), c.K(), lost, shard, b, e, api.ErrArg)
	}
}

// regenerated checks that Regenerate returns the shard wanted.
func regenerated(t *testing.T, c *msr.Code, lost int, l []msr.Part, want ...byte) {
	t.Helper()
	if b, e := Regenerate(c, lost, l); e != api.OK || !bytes.Equal(b, want) {
		t.Errorf("n %d, k %d: Regenerate(%d, %v): %v, %d, want %v", c.N(), c.K(), lost, l, b, e, want)
	}
}

// refusedRegenerate checks that Regenerate returns no bytes and the error wanted.
func refusedRegenerate(t *testing.T, c *msr.Code, lost int, l []msr.Part, want api.Errno) {
	t.Helper()
	if b, e := Regenerate(c, lost, l); len(b) != 0 || e != want {
		t.Errorf("n %d, k %d: Regenerate(%d, %v): %v, %d, want none and %d", c.N(), c.K(), lost, l, b, e, want)
	}
}

// made checks that Whole returns the shard wanted.
func made(t *testing.T, c *msr.Code, lost int, l []msr.Part, want ...byte) {
	t.Helper()
	if b, e := Whole(c, lost, l); e != api.OK || !bytes.Equal(b, want) {
		t.Errorf("n %d, k %d: Whole(%d, %v): %v, %d, want %v", c.N(), c.K(), lost, l, b, e, want)
	}
}

// refusedWhole checks that Whole returns no bytes and the error wanted.
func refusedWhole(t *testing.T, c *msr.Code, lost int, l []msr.Part, want api.Errno) {
	t.Helper()
	if b, e := Whole(c, lost, l); len(b) != 0 || e != want {
		t.Errorf("n %d, k %d: Whole(%d, %v): %v, %d, want none and %d", c.N(), c.K(), lost, l, b, e, want)
	}
}

// costs checks what Cost returns.
func costs(t *testing.T, c *msr.Code, size, fragments, whole int) {
	t.Helper()
	if f, w := Cost(c, size); f != fragments || w != whole {
		t.Errorf("n %d, k %d: Cost(%d): %d and %d, want %d and %d", c.N(), c.K(), size, f, w, fragments, whole)
	}
}

// P7.1

// With k = 2 a shard is one part, and the first half of each row is the element 1.
func TestFragmentOfOnePartByHand(t *testing.T) {
	c := code(t, 3, 2)
	for lost := range 3 {
		fragmented(t, c, lost, []byte{5}, 5)
		fragmented(t, c, lost, []byte{5, 0, 255}, 5, 0, 255)
	}
}

// With k = 3 the first halves of the rows are 1 and the point, and the points are 0 to 4.
func TestFragmentOfTwoPartsByHand(t *testing.T) {
	c := code(t, 5, 3)
	fragmented(t, c, 0, []byte{9, 128}, 9)
	fragmented(t, c, 1, []byte{9, 128}, 9^128)
	fragmented(t, c, 2, []byte{9, 128}, 9^29)
	fragmented(t, c, 3, []byte{9, 128}, 9^29^128)
	fragmented(t, c, 4, []byte{9, 128}, 9^58)
	// Parts of two bytes: the first byte of a part has to do with the first byte of the other alone.
	fragmented(t, c, 2, []byte{9, 1, 128, 0}, 9^29, 1)
	fragmented(t, c, 4, []byte{0, 0, 0, 1, 2, 3}, 4, 8, 12)
	fragmented(t, c, 4, []byte{0, 0, 0, 0}, 0, 0)
}

// With k = 4 the first halves are 1, the point and its square.
func TestFragmentOfThreePartsByHand(t *testing.T) {
	c := code(t, 9, 4)
	fragmented(t, c, 0, []byte{7, 1, 1}, 7)
	fragmented(t, c, 1, []byte{7, 1, 1}, 7)
	fragmented(t, c, 2, []byte{7, 1, 1}, 7^2^4)
	fragmented(t, c, 2, []byte{7, 8, 1, 0, 0, 1}, 7^2, 8^4)
	fragmented(t, c, 3, []byte{0, 0, 1}, 5)
}

// fragmentByValue makes what a shard sends, byte by byte, as the value of a polynomial at the point of the lost slot.
func fragmentByValue(c *msr.Code, lost int, shard []byte) []byte {
	size := len(shard) / c.Parts()
	f := make([]byte, size)
	for at := range f {
		coefficients := make([]byte, c.Parts())
		for j := range coefficients {
			coefficients[j] = shard[j*size+at]
		}
		f[at] = vand.Value(coefficients, c.Row(lost)[1])
	}
	return f
}

func TestFragmentForEverySlot(t *testing.T) {
	d := dice(1)
	for _, c := range everyCode(t) {
		for lost := range c.N() {
			for _, size := range []int{1, 2, 3, 16} {
				shard := d.list(c.Parts() * size)
				fragmented(t, c, lost, shard, fragmentByValue(c, lost, shard)...)
			}
		}
	}
}

func TestFragmentOfLongParts(t *testing.T) {
	d := dice(2)
	for _, c := range codes(t) {
		for _, size := range []int{64, 65, 256, 257} {
			shard := d.list(c.Parts() * size)
			lost := d.below(c.N())
			fragmented(t, c, lost, shard, fragmentByValue(c, lost, shard)...)
		}
	}
}

func TestFragmentOfANilCode(t *testing.T) {
	for _, lost := range []int{-1, 0, 1, 23, 24, math.MinInt, math.MaxInt} {
		for length := range 20 {
			refusedFragment(t, nil, lost, make([]byte, length))
		}
		refusedFragment(t, nil, lost, nil)
	}
}

func TestFragmentForSlotsThatDoNotExist(t *testing.T) {
	for _, c := range everyCode(t) {
		shard := make([]byte, 2*c.Parts())
		fragmented(t, c, 0, shard, 0, 0)
		fragmented(t, c, c.N()-1, shard, 0, 0)
		for _, lost := range wrongSlots(c) {
			refusedFragment(t, c, lost, shard)
			refusedFragment(t, c, lost, nil)
		}
	}
}

func TestFragmentOfWrongLengths(t *testing.T) {
	for _, c := range codes(t) {
		for _, lost := range []int{0, c.N() - 1} {
			refusedFragment(t, c, lost, nil)
			refusedFragment(t, c, lost, []byte{})
			refusedFragment(t, c, lost, make([]byte, c.Parts())[:0])
			for length := 1; length <= 3*c.Parts()+1; length++ {
				shard := make([]byte, length)
				if length%c.Parts() == 0 {
					fragmented(t, c, lost, shard, make([]byte, length/c.Parts())...)
				} else {
					refusedFragment(t, c, lost, shard)
				}
			}
			if c.Parts() > 1 {
				refusedFragment(t, c, lost, make([]byte, 1000*c.Parts()-1))
			}
		}
	}
	// Multiples of other numbers that a code has do not suffice.
	c := code(t, 9, 4)
	for _, length := range []int{4, 8, 16} {
		refusedFragment(t, c, 1, make([]byte, length))
	}
}

// P7.2

// The message 5, 7 has the shards 5, 2 and 11, and with k = 2 a fragment is the shard.
func TestRegenerateOfTwoByHand(t *testing.T) {
	c := code(t, 3, 2)
	five, two, eleven := msr.Part{Slot: 0, Data: []byte{5}}, msr.Part{Slot: 1, Data: []byte{2}}, msr.Part{Slot: 2, Data: []byte{11}}
	regenerated(t, c, 0, []msr.Part{two, eleven}, 5)
	regenerated(t, c, 0, []msr.Part{eleven, two}, 5)
	regenerated(t, c, 1, []msr.Part{five, eleven}, 2)
	regenerated(t, c, 1, []msr.Part{eleven, five}, 2)
	regenerated(t, c, 2, []msr.Part{five, two}, 11)
	regenerated(t, c, 2, []msr.Part{two, five}, 11)
	regenerated(t, c, 2, []msr.Part{{Slot: 1, Data: []byte{2, 128}}, {Slot: 0, Data: []byte{5, 0}}}, 11, 29)
}

// sent makes fragments of the slots from 0 on, a byte each.
func sent(data ...byte) []msr.Part {
	var l []msr.Part
	for slot, x := range data {
		l = append(l, msr.Part{Slot: slot, Data: []byte{x}})
	}
	return l
}

// The rows of the slots 0 to 3 are 1 0 0 0, 1 1 1 1, 1 2 4 8 and 1 3 5 15, and that of slot 4 has the element 16 at 2.
func TestRegenerateOfFourByHand(t *testing.T) {
	c := code(t, 5, 3)
	regenerated(t, c, 4, sent(1, 1, 1, 1), 1, 0)    // the column 1 0 0 0
	regenerated(t, c, 4, sent(0, 1, 2, 3), 0, 1)    // 0 1 0 0
	regenerated(t, c, 4, sent(0, 1, 4, 5), 16, 0)   // 0 0 1 0
	regenerated(t, c, 4, sent(0, 1, 8, 15), 0, 16)  // 0 0 0 1
	regenerated(t, c, 4, sent(9, 9, 9, 9), 9, 0)    // 9 0 0 0
	regenerated(t, c, 4, sent(1, 0, 15, 8), 17, 17) // 1 1 1 1
	regenerated(t, c, 4, sent(0, 0, 0, 0), 0, 0)
	l := []msr.Part{{Slot: 2, Data: []byte{1, 4}}, {Slot: 0, Data: []byte{1, 0}}, {Slot: 3, Data: []byte{1, 5}}, {Slot: 1, Data: []byte{1, 1}}}
	regenerated(t, c, 4, l, 1, 16, 0, 0) // the columns 1 0 0 0 and 0 0 1 0
}

// columnThrough makes the column at an index: it is the polynomial through the fragments of the first Helpers slots.
func columnThrough(t *testing.T, c *msr.Code, l []msr.Part, at int) []byte {
	t.Helper()
	var points, values []byte
	for _, p := range l[:c.Helpers()] {
		points, values = append(points, c.Row(p.Slot)[1]), append(values, p.Data[at])
	}
	column, e := vand.Through(points, values)
	if e != api.OK || len(column) != 2*c.K()-2 {
		t.Fatalf("n %d, k %d: Through(%v, %v): %v, %d", c.N(), c.K(), points, values, column, e)
	}
	for _, p := range l[:c.Helpers()] {
		if mat.Dot(c.Row(p.Slot), column) != p.Data[at] {
			t.Fatalf("n %d, k %d: %v is not the column of %v", c.N(), c.K(), column, l)
		}
	}
	return column
}

// shardByColumns makes the shard of the lost slot as the chapter says it, to hold Regenerate against.
func shardByColumns(t *testing.T, c *msr.Code, lost int, l []msr.Part) []byte {
	t.Helper()
	size := len(l[0].Data)
	shard := make([]byte, (c.K()-1)*size)
	for at := range size {
		y := columnThrough(t, c, l, at)
		for j := range c.K() - 1 {
			shard[j*size+at] = gf.Add(y[j], gf.Mul(y[j+c.K()-1], c.Row(lost)[c.K()-1]))
		}
	}
	return shard
}

// anyParts makes parts of these slots with length bytes each that are the fragments of no message.
func (d *dice) anyParts(length int, slots ...int) []msr.Part {
	var l []msr.Part
	for _, slot := range slots {
		l = append(l, msr.Part{Slot: slot, Data: d.list(length)})
	}
	return l
}

// Whatever the fragments are, there is just one column that has them.
func TestRegenerateOfAnyBytes(t *testing.T) {
	d := dice(3)
	for _, c := range everyCode(t) {
		for lost := range c.N() {
			l := d.anyParts(1+d.below(3), d.mixed(others(c, lost))[:c.Helpers()]...)
			regenerated(t, c, lost, l, shardByColumns(t, c, lost, l)...)
		}
	}
}

func TestRegenerateOfLongFragments(t *testing.T) {
	d := dice(4)
	for _, c := range codes(t) {
		for _, length := range []int{64, 65, 256, 257} {
			lost := d.below(c.N())
			l := d.anyParts(length, d.mixed(others(c, lost))[:c.Helpers()]...)
			regenerated(t, c, lost, l, shardByColumns(t, c, lost, l)...)
		}
	}
}

// A fragment may have any length but 0, also where the length of a shard may not.
func TestRegenerateOfAnyLength(t *testing.T) {
	d := dice(5)
	for _, c := range codes(t) {
		for length := 1; length <= 2*c.Parts()+1; length++ {
			lost := d.below(c.N())
			l := d.anyParts(length, others(c, lost)...)
			regenerated(t, c, lost, l, shardByColumns(t, c, lost, l)...)
		}
	}
}

// More than Helpers are permitted; the first Helpers decide, whatever the others have.
func TestRegenerateUsesTheFirst(t *testing.T) {
	d := dice(6)
	for _, c := range codes(t) {
		for _, lost := range []int{0, d.below(c.N()), c.N() - 1} {
			l := d.anyParts(2, d.mixed(others(c, lost))...)
			want := shardByColumns(t, c, lost, l)
			for count := c.Helpers(); count <= len(l); count++ {
				regenerated(t, c, lost, l[:count], want...)
			}
			for i := c.Helpers(); i < len(l); i++ {
				l[i].Data = d.list(2)
			}
			regenerated(t, c, lost, l, want...)
			// Among the first, a fragment with another byte leads to another column.
			l[c.Helpers()-1].Data[1]++
			regenerated(t, c, lost, l, shardByColumns(t, c, lost, l)...)
		}
	}
}

func TestRegenerateOfTooFew(t *testing.T) {
	d := dice(7)
	for _, c := range codes(t) {
		for _, lost := range []int{0, d.below(c.N()), c.N() - 1} {
			refusedRegenerate(t, c, lost, nil, api.ErrFew)
			refusedRegenerate(t, c, lost, []msr.Part{}, api.ErrFew)
			l := d.anyParts(3, d.mixed(others(c, lost))...)
			for count := range c.Helpers() {
				refusedRegenerate(t, c, lost, l[:count], api.ErrFew)
				refusedRegenerate(t, c, lost, l[len(l)-count:], api.ErrFew)
			}
			regenerated(t, c, lost, l[:c.Helpers()], shardByColumns(t, c, lost, l)...)
		}
	}
}

func TestRegenerateOfANilCode(t *testing.T) {
	for _, lost := range []int{-1, 0, 1, 23, 24, math.MinInt, math.MaxInt} {
		refusedRegenerate(t, nil, lost, nil, api.ErrArg)
		refusedRegenerate(t, nil, lost, []msr.Part{}, api.ErrArg)
		refusedRegenerate(t, nil, lost, []msr.Part{{}}, api.ErrArg)
		refusedRegenerate(t, nil, lost, sent(1, 2), api.ErrArg)
		refusedRegenerate(t, nil, lost, sent(make([]byte, 24)...), api.ErrArg)
	}
}

// counts makes numbers of fragments: too few, just enough, more, and all. They are at least 1.
func counts(c *msr.Code) []int {
	return slices.Compact([]int{1, c.Helpers() - 1, c.Helpers(), min(c.Helpers()+1, c.N()-1), c.N() - 1})
}

// A lost slot that does not exist is refused also where there are too few fragments.
func TestRegenerateOfALostSlotThatDoesNotExist(t *testing.T) {
	d := dice(8)
	for _, c := range codes(t) {
		for _, lost := range wrongSlots(c) {
			refusedRegenerate(t, c, lost, nil, api.ErrArg)
			for count := range c.N() + 1 {
				refusedRegenerate(t, c, lost, d.anyParts(1, upTo(count)...), api.ErrArg)
			}
		}
		for _, lost := range []int{0, c.N() - 1} {
			l := d.anyParts(1, others(c, lost)...)
			regenerated(t, c, lost, l, shardByColumns(t, c, lost, l)...)
		}
	}
}

// refusedWith checks that Regenerate returns ErrArg for any number of fragments of which one, anywhere, is spoilt: also
// where there are too few, and where the wrong one is not among the first.
func refusedWith(t *testing.T, c *msr.Code, lost int, spoil func(*msr.Part)) {
	t.Helper()
	for _, count := range counts(c) {
		for i := range count {
			l := (new(dice)).anyParts(2, others(c, lost)[:count]...)
			spoil(&l[i])
			refusedRegenerate(t, c, lost, l, api.ErrArg)
		}
	}
}

func TestRegenerateOfSlotsThatDoNotExist(t *testing.T) {
	for _, c := range codes(t) {
		for _, slot := range wrongSlots(c) {
			for _, lost := range []int{0, c.N() - 1} {
				refusedWith(t, c, lost, func(p *msr.Part) { p.Slot = slot })
			}
		}
	}
}

func TestRegenerateOfTheLostSlot(t *testing.T) {
	d := dice(9)
	for _, c := range codes(t) {
		for lost := range c.N() {
			refusedWith(t, c, lost, func(p *msr.Part) { p.Slot = lost })
			refusedRegenerate(t, c, lost, d.anyParts(1, lost), api.ErrArg)
			// Also beside enough others.
			refusedRegenerate(t, c, lost, d.anyParts(1, append(others(c, lost), lost)...), api.ErrArg)
			refusedRegenerate(t, c, lost, d.anyParts(1, append([]int{lost}, others(c, lost)...)...), api.ErrArg)
		}
	}
}

func TestRegenerateOfSlotsThatOccurTwice(t *testing.T) {
	d := dice(10)
	for _, c := range codes(t) {
		lost := d.below(c.N())
		all := d.anyParts(2, d.mixed(others(c, lost))...)
		for _, count := range counts(c) {
			for i := range count {
				for k := range i {
					l := slices.Clone(all[:count])
					l[i].Slot = l[k].Slot // with the Data of another slot
					refusedRegenerate(t, c, lost, l, api.ErrArg)
					l[i] = l[k]
					refusedRegenerate(t, c, lost, l, api.ErrArg)
				}
				refusedRegenerate(t, c, lost, append(slices.Clone(all[:count]), all[i]), api.ErrArg)
			}
		}
		// More fragments than there are slots.
		refusedRegenerate(t, c, lost, append(slices.Clone(all), all...), api.ErrArg)
		regenerated(t, c, lost, all, shardByColumns(t, c, lost, all)...)
	}
}

func TestRegenerateOfEmptyData(t *testing.T) {
	for _, c := range codes(t) {
		for _, lost := range []int{0, c.N() - 1} {
			for _, empty := range [][]byte{nil, {}, make([]byte, 2)[:0]} {
				refusedWith(t, c, lost, func(p *msr.Part) { p.Data = empty })
			}
			for _, count := range counts(c) {
				refusedRegenerate(t, c, lost, make([]msr.Part, count), api.ErrArg)
				l := (new(dice)).anyParts(0, others(c, lost)[:count]...)
				refusedRegenerate(t, c, lost, l, api.ErrArg)
			}
		}
	}
}

func TestRegenerateOfDifferentLengths(t *testing.T) {
	for _, c := range codes(t) {
		for _, lost := range []int{0, c.N() - 1} {
			for _, count := range counts(c)[1:] { // as one fragment alone is as long as itself
				for i := range count {
					for _, length := range []int{1, 3, 4, 258} {
						l := (new(dice)).anyParts(2, others(c, lost)[:count]...)
						l[i].Data = make([]byte, length)
						refusedRegenerate(t, c, lost, l, api.ErrArg)
					}
				}
			}
		}
	}
}

// Where several errors apply, the first that the chapter names is returned: there being too few is the last.
func TestRegenerateOfSeveralFaults(t *testing.T) {
	c := code(t, 6, 3)
	few := sent(1, 2, 3)
	refusedRegenerate(t, c, 5, few, api.ErrFew)
	refusedRegenerate(t, c, 3, few, api.ErrFew)
	refusedRegenerate(t, c, 6, few, api.ErrArg)
	refusedRegenerate(t, c, -1, few, api.ErrArg)
	refusedRegenerate(t, c, -1, nil, api.ErrArg)
	refusedRegenerate(t, c, 2, few, api.ErrArg)
	refusedRegenerate(t, c, 0, few, api.ErrArg)
	refusedRegenerate(t, c, 5, []msr.Part{few[0], few[0]}, api.ErrArg)
	refusedRegenerate(t, c, 5, []msr.Part{few[0], {Slot: 6, Data: []byte{1}}}, api.ErrArg)
	refusedRegenerate(t, c, 5, []msr.Part{few[0], {Slot: -1, Data: []byte{1}}}, api.ErrArg)
	refusedRegenerate(t, c, 5, []msr.Part{few[0], {Slot: 1}}, api.ErrArg)
	refusedRegenerate(t, c, 5, []msr.Part{few[0], {Slot: 1, Data: []byte{1, 2}}}, api.ErrArg)
	refusedRegenerate(t, c, 5, []msr.Part{{}}, api.ErrArg)
	refusedRegenerate(t, nil, 5, few, api.ErrArg)
}

// P7.3

// The message 5, 7 has the shards 5, 2 and 11.
func TestWholeByHand(t *testing.T) {
	c := code(t, 3, 2)
	five, two, eleven := msr.Part{Slot: 0, Data: []byte{5}}, msr.Part{Slot: 1, Data: []byte{2}}, msr.Part{Slot: 2, Data: []byte{11}}
	for lost, want := range []byte{5, 2, 11} {
		made(t, c, lost, []msr.Part{five, two}, want)
		made(t, c, lost, []msr.Part{eleven, five}, want)
		made(t, c, lost, []msr.Part{two, eleven}, want)
	}
	c = code(t, 5, 3)
	l := []msr.Part{{Slot: 1, Data: []byte{1, 1}}, {Slot: 4, Data: []byte{64, 16}}, {Slot: 2, Data: []byte{8, 4}}}
	made(t, c, 0, l, 0, 0)
	made(t, c, 1, l, 1, 1)
	made(t, c, 2, l, 8, 4)
	made(t, c, 3, l, 15, 5)
	made(t, c, 4, l, 64, 16)
}

// A lost slot that is among the shards is permitted: its shard is that of the message all the same.
func TestWholeOfEverySlot(t *testing.T) {
	d := dice(11)
	for _, c := range codes(t) {
		shards := encode(t, c, d.list(c.Symbols()*(1+d.below(3))))
		slots := d.mixed(upTo(c.N()))
		for lost := range c.N() {
			made(t, c, lost, pick(shards, slots[:c.K()]...), shards[lost]...)
		}
	}
}

// The first k decide, whatever the others have, be the lost slot among them or not.
func TestWholeUsesTheFirst(t *testing.T) {
	d := dice(12)
	for _, c := range codes(t) {
		shards := encode(t, c, d.list(c.Symbols()*2))
		slots := d.mixed(upTo(c.N()))
		l := pick(shards, slots...)
		for i := c.K(); i < len(l); i++ {
			l[i].Data = d.list(c.Parts() * 2)
		}
		for _, i := range []int{0, c.K() - 1, c.K(), c.N() - 1} {
			made(t, c, slots[i], l, shards[slots[i]]...)
			made(t, c, slots[i], l[:c.K()+1], shards[slots[i]]...)
		}
	}
}

// Shards of which any k lead to a message need not be those of one message: that of the first k counts.
func TestWholeOfAnyBytes(t *testing.T) {
	d := dice(13)
	for _, c := range codes(t) {
		slots := d.mixed(upTo(c.N()))
		l := d.anyParts(c.Parts()*2, slots...)
		b, e := c.Decode(l)
		if e != api.OK {
			t.Fatal(e)
		}
		shards := encode(t, c, b)
		for i := range c.K() {
			made(t, c, slots[i], l, l[i].Data...)
		}
		made(t, c, slots[c.K()], l, shards[slots[c.K()]]...)
		made(t, c, slots[c.N()-1], l, shards[slots[c.N()-1]]...)
	}
}

func TestWholeOfLongParts(t *testing.T) {
	d := dice(14)
	for _, p := range [][2]int{{3, 2}, {6, 3}, {24, 8}} {
		c := code(t, p[0], p[1])
		for _, size := range []int{64, 65, 256, 257} {
			shards := encode(t, c, d.list(c.Symbols()*size))
			lost := d.below(c.N())
			made(t, c, lost, pick(shards, d.mixed(others(c, lost))[:c.K()]...), shards[lost]...)
		}
	}
}

func TestWholeOfANilCode(t *testing.T) {
	for _, lost := range []int{-1, 0, 1, 23, 24, math.MinInt, math.MaxInt} {
		refusedWhole(t, nil, lost, nil, api.ErrArg)
		refusedWhole(t, nil, lost, []msr.Part{}, api.ErrArg)
		refusedWhole(t, nil, lost, []msr.Part{{}}, api.ErrArg)
		refusedWhole(t, nil, lost, sent(1, 2), api.ErrArg)
	}
}

// The lost slot is looked at after the shards, so too few of them are ErrFew even for one that does not exist.
func TestWholeReturnsTheErrorOfDecode(t *testing.T) {
	for _, c := range codes(t) {
		shards := encode(t, c, make([]byte, c.Symbols()*2))
		all := pick(shards, upTo(c.N())...)
		var odd []msr.Part
		for slot := range c.N() {
			odd = append(odd, msr.Part{Slot: slot, Data: make([]byte, c.Parts()*2+1)})
		}
		with := func(count, i int, p msr.Part) []msr.Part {
			l := slices.Clone(all[:count])
			l[i] = p
			return l
		}
		lists := [][]msr.Part{nil, {}, all[:1], all[:c.K()-1], odd[:c.K()-1], odd[:c.K()], odd}
		for _, count := range []int{c.K() - 1, c.K(), c.N()} {
			for _, i := range []int{0, count - 1} {
				lists = append(lists,
					with(count, i, msr.Part{Slot: -1, Data: all[0].Data}),
					with(count, i, msr.Part{Slot: c.N(), Data: all[0].Data}),
					with(count, i, msr.Part{Slot: all[i].Slot}),
					with(count, i, all[count/2]),
					with(count, i, msr.Part{Slot: all[i].Slot, Data: make([]byte, c.Parts())}))
			}
		}
		for _, l := range lists {
			_, want := c.Decode(l)
			if want == api.OK {
				continue // a part was put in its own place
			}
			for _, lost := range append(wrongSlots(c), 0, 1, c.N()-1) {
				refusedWhole(t, c, lost, l, want)
			}
		}
	}
}

func TestWholeOfFaultsByHand(t *testing.T) {
	c := code(t, 6, 3)
	good := []msr.Part{{Slot: 0, Data: []byte{1, 2}}, {Slot: 1, Data: []byte{3, 4}}, {Slot: 2, Data: []byte{5, 6}}}
	odd := []msr.Part{{Slot: 0, Data: []byte{1}}, {Slot: 1, Data: []byte{3}}, {Slot: 2, Data: []byte{5}}}
	for _, lost := range []int{-1, 0, 2, 5, 6} {
		refusedWhole(t, c, lost, nil, api.ErrFew)
		refusedWhole(t, c, lost, good[:2], api.ErrFew)
		refusedWhole(t, c, lost, odd[:2], api.ErrFew)
		refusedWhole(t, c, lost, odd, api.ErrArg)
		refusedWhole(t, c, lost, []msr.Part{good[0], good[0]}, api.ErrArg)
		refusedWhole(t, c, lost, []msr.Part{good[0], odd[1]}, api.ErrArg)
		refusedWhole(t, c, lost, []msr.Part{good[0], {Slot: 1}}, api.ErrArg)
		refusedWhole(t, c, lost, []msr.Part{{Slot: 6, Data: []byte{1, 2}}}, api.ErrArg)
		refusedWhole(t, c, lost, []msr.Part{{Slot: -1, Data: []byte{1, 2}}}, api.ErrArg)
	}
	made(t, c, 0, good, 1, 2)
	refusedWhole(t, c, -1, good, api.ErrArg)
	refusedWhole(t, c, 6, good, api.ErrArg)
}

func TestWholeOfALostSlotThatDoesNotExist(t *testing.T) {
	for _, c := range codes(t) {
		l := pick(encode(t, c, make([]byte, c.Symbols())), upTo(c.N())...)
		for _, lost := range wrongSlots(c) {
			refusedWhole(t, c, lost, l, api.ErrArg)
			refusedWhole(t, c, lost, l[:c.K()], api.ErrArg)
		}
		made(t, c, 0, l, make([]byte, c.Parts())...)
		made(t, c, c.N()-1, l, make([]byte, c.Parts())...)
	}
}

func TestCostByHand(t *testing.T) {
	costs(t, code(t, 7, 3), 4, 8, 12)
	costs(t, code(t, 3, 2), 1, 2, 2)
	costs(t, code(t, 3, 2), 5, 10, 10)
	costs(t, code(t, 9, 4), 3, 6, 12)
	costs(t, code(t, 9, 4), 768, 1536, 3072)
	costs(t, code(t, 16, 8), 7, 14, 56)
	costs(t, code(t, 16, 8), 1792, 3584, 14336)
	costs(t, code(t, 24, 8), 7<<25, 14<<25, 56<<25)
}

// What Cost returns is what is sent.
func TestCostIsWhatIsSent(t *testing.T) {
	for _, c := range everyCode(t) {
		for size := 1; size <= 4; size++ {
			shard := make([]byte, c.Parts()*size)
			sent := 0
			for range 2*c.K() - 2 {
				sent += len(fragment(t, c, 0, shard))
			}
			costs(t, c, len(shard), sent, c.K()*len(shard))
		}
	}
}

func TestCostOfWrongSizes(t *testing.T) {
	for _, c := range codes(t) {
		for size := -3 * c.Parts(); size <= 3*c.Parts()+1; size++ {
			if size >= 1 && size%c.Parts() == 0 {
				costs(t, c, size, 2*size, c.K()*size)
			} else {
				costs(t, c, size, 0, 0)
			}
		}
		for _, size := range []int{math.MinInt, math.MinInt + 1, math.MinInt32, -1 << 32, -1000 * c.Parts()} {
			costs(t, c, size, 0, 0)
		}
	}
	costs(t, code(t, 24, 8), 7000001, 0, 0)
}

func TestCostOfANilCode(t *testing.T) {
	for _, size := range []int{math.MinInt, -1, 0, 1, 2, 7, 420, math.MaxInt32, math.MaxInt} {
		costs(t, nil, size, 0, 0)
	}
}

// P7.4

// choices calls do with each choice of k numbers of a list, in their order.
func choices(l []int, k int, do func([]int)) {
	var chosen []int
	var extend func(from int)
	extend = func(from int) {
		if len(chosen) == k {
			do(slices.Clone(chosen))
			return
		}
		for i := from; i < len(l); i++ {
			chosen = append(chosen, l[i])
			extend(i + 1)
			chosen = chosen[:len(chosen)-1]
		}
	}
	extend(0)
}

// orders calls do with each order of a list.
func orders(l []int, do func([]int)) {
	var arrange func(fixed int)
	arrange = func(fixed int) {
		if fixed == len(l) {
			do(l)
			return
		}
		for i := fixed; i < len(l); i++ {
			l[fixed], l[i] = l[i], l[fixed]
			arrange(fixed + 1)
			l[fixed], l[i] = l[i], l[fixed]
		}
	}
	arrange(0)
}

func TestFragmentsOfAnyOthers(t *testing.T) {
	d := dice(15)
	for _, p := range [][2]int{
		{3, 2}, {4, 2}, {13, 2}, {24, 2}, {5, 3}, {8, 3}, {12, 3}, {7, 4}, {10, 4}, {9, 5}, {11, 5},
		{11, 6}, {13, 6}, {13, 7}, {14, 7}, {15, 8}, {16, 8},
	} {
		c := code(t, p[0], p[1])
		shards := encode(t, c, d.list(c.Symbols()*2))
		for lost := range c.N() {
			all := send(t, c, lost, shards, upTo(c.N())...)
			choices(others(c, lost), c.Helpers(), func(slots []int) {
				var l []msr.Part
				for _, slot := range d.mixed(slots) {
					l = append(l, all[slot])
				}
				regenerated(t, c, lost, l, shards[lost]...)
			})
		}
	}
}

func TestFragmentsOfAnyOthersInAnyOrder(t *testing.T) {
	d := dice(16)
	for _, p := range [][2]int{{3, 2}, {9, 2}, {5, 3}, {7, 3}} {
		c := code(t, p[0], p[1])
		shards := encode(t, c, d.list(c.Symbols()*2))
		for lost := range c.N() {
			choices(others(c, lost), c.Helpers(), func(slots []int) {
				orders(slots, func(slots []int) {
					regenerated(t, c, lost, send(t, c, lost, shards, slots...), shards[lost]...)
				})
			})
		}
	}
}

func TestFragmentsOfSomeOthersOfEveryCode(t *testing.T) {
	d := dice(17)
	for _, c := range everyCode(t) {
		shards := encode(t, c, d.list(c.Symbols()*3))
		for lost := range c.N() {
			slots := others(c, lost)
			regenerated(t, c, lost, send(t, c, lost, shards, slots...), shards[lost]...)
			regenerated(t, c, lost, send(t, c, lost, shards, slots[len(slots)-c.Helpers():]...), shards[lost]...)
			regenerated(t, c, lost, send(t, c, lost, shards, d.mixed(slots)[:c.Helpers()]...), shards[lost]...)
		}
	}
}

// A shard that was regenerated helps as one that was encoded does.
func TestRegeneratedShardsHelp(t *testing.T) {
	d := dice(18)
	for _, c := range codes(t) {
		b := d.list(c.Symbols() * 2)
		want := encode(t, c, b)
		shards := slices.Clone(want)
		for _, lost := range d.mixed(upTo(c.N())) {
			shard, e := Regenerate(c, lost, send(t, c, lost, shards, d.mixed(others(c, lost))[:c.Helpers()]...))
			if e != api.OK || !bytes.Equal(shard, want[lost]) {
				t.Fatalf("n %d, k %d: slot %d: %v, %d, want %v", c.N(), c.K(), lost, shard, e, want[lost])
			}
			shards[lost] = shard
		}
		if got, e := c.Decode(pick(shards, d.mixed(upTo(c.N()))...)); e != api.OK || !bytes.Equal(got, b) {
			t.Errorf("n %d, k %d: %v, %d, want %v", c.N(), c.K(), got, e, b)
		}
	}
}

func TestWholeOfAnyShards(t *testing.T) {
	d := dice(19)
	for _, p := range [][2]int{{3, 2}, {8, 2}, {24, 2}, {5, 3}, {8, 3}, {7, 4}, {9, 4}, {9, 5}} {
		c := code(t, p[0], p[1])
		shards := encode(t, c, d.list(c.Symbols()*2))
		choices(upTo(c.N()), c.K(), func(slots []int) {
			lost := d.below(c.N())
			made(t, c, lost, pick(shards, d.mixed(slots)...), shards[lost]...)
		})
	}
}

func TestWholeOfAnyShardsInAnyOrder(t *testing.T) {
	d := dice(20)
	for _, p := range [][2]int{{3, 2}, {7, 2}, {5, 3}} {
		c := code(t, p[0], p[1])
		shards := encode(t, c, d.list(c.Symbols()*2))
		for lost := range c.N() {
			choices(others(c, lost), c.K(), func(slots []int) {
				orders(slots, func(slots []int) {
					made(t, c, lost, pick(shards, slots...), shards[lost]...)
				})
			})
		}
	}
}

func TestWholeOfSomeShardsOfEveryCode(t *testing.T) {
	d := dice(21)
	for _, c := range everyCode(t) {
		shards := encode(t, c, d.list(c.Symbols()))
		for range 2 {
			lost := d.below(c.N())
			made(t, c, lost, pick(shards, d.mixed(others(c, lost))[:c.K()]...), shards[lost]...)
		}
	}
}

// Memory

// roomy returns a slice with these bytes and others behind its end, and all of its memory.
func roomy(l []byte) (slice, memory []byte) {
	memory = append(bytes.Clone(l), 201, 202, 203, 204, 205, 206, 207, 208)
	return memory[:len(l)], memory
}

// scrawl writes over a slice and all that is behind its end.
func scrawl(l []byte) {
	l = l[:cap(l)]
	for i := range l {
		l[i] = ^l[i]
	}
}

// roomyParts returns parts with other memory behind the end of the list and of each Data, and all of that memory.
func roomyParts(l []msr.Part) (list, all []msr.Part, memory [][]byte) {
	for _, p := range l {
		data, m := roomy(p.Data)
		all, memory = append(all, msr.Part{Slot: p.Slot, Data: data}), append(memory, m)
	}
	spare := []byte{209, 210}
	all = append(all, msr.Part{Slot: 77, Data: spare}, msr.Part{Slot: -5, Data: spare[:1]})
	return all[:len(l)], all, append(memory, spare)
}

// sameLists reports whether two lists have the same bytes.
func sameLists(a, b [][]byte) bool {
	return slices.EqualFunc(a, b, bytes.Equal)
}

// sameParts reports whether two lists have the same slots and bytes.
func sameParts(a, b []msr.Part) bool {
	return slices.EqualFunc(a, b, func(p, q msr.Part) bool { return p.Slot == q.Slot && bytes.Equal(p.Data, q.Data) })
}

// copied returns lists in memory of their own.
func copied(l [][]byte) [][]byte {
	var c [][]byte
	for _, b := range l {
		c = append(c, bytes.Clone(b))
	}
	return c
}

func TestFragmentChangesNoArgument(t *testing.T) {
	d := dice(22)
	for _, c := range append(codes(t), nil) {
		for _, length := range []int{0, 1, c.Parts(), c.Parts() + 1, 3 * c.Parts()} {
			for _, lost := range []int{-1, 0, 1, c.N() - 1, c.N()} {
				shard, memory := roomy(d.list(length))
				before := bytes.Clone(memory)
				Fragment(c, lost, shard)
				if !bytes.Equal(memory, before) {
					t.Errorf("n %d, k %d: Fragment(%d): the shard %v was %v", c.N(), c.K(), lost, memory, before)
				}
			}
		}
	}
}

// unchanged checks that call changes none of the parts that it is given, whatever is behind their ends.
func unchanged(t *testing.T, l []msr.Part, call func([]msr.Part)) {
	t.Helper()
	list, all, memory := roomyParts(l)
	beforeList, beforeMemory := slices.Clone(all), copied(memory)
	call(list)
	if !sameParts(all, beforeList) || !sameLists(memory, beforeMemory) {
		t.Errorf("the parts %v have changed", l)
	}
}

func TestRegenerateAndWholeChangeNoArgument(t *testing.T) {
	d := dice(23)
	for _, c := range codes(t) {
		lost := d.below(c.N())
		slots := d.mixed(others(c, lost))
		all := d.anyParts(2*c.Parts(), slots...)
		faulty := slices.Clone(all)
		faulty[len(faulty)-1].Slot = faulty[0].Slot
		for _, l := range [][]msr.Part{all, all[:c.Helpers()], all[:c.Helpers()-1], all[:c.K()-1], faulty, nil} {
			unchanged(t, l, func(l []msr.Part) {
				Regenerate(c, lost, l)
				Regenerate(c, c.N(), l)
				Regenerate(nil, lost, l)
			})
			unchanged(t, l, func(l []msr.Part) {
				Whole(c, lost, l)
				Whole(c, c.N(), l)
				Whole(nil, lost, l)
			})
		}
	}
}

func TestFragmentIsApart(t *testing.T) {
	d := dice(24)
	for _, c := range codes(t) {
		for lost := range c.N() {
			shard, memory := roomy(d.list(c.Parts() * 3))
			want := fragmentByValue(c, lost, shard)
			first, second := fragment(t, c, lost, shard), fragment(t, c, lost, shard)
			before := bytes.Clone(memory)
			scrawl(memory)
			if !bytes.Equal(first, want) {
				t.Fatalf("n %d, k %d: the fragment has changed with the shard", c.N(), c.K())
			}
			copy(memory, before)
			scrawl(first)
			if !bytes.Equal(memory, before) {
				t.Errorf("n %d, k %d: the shard has changed with the fragment", c.N(), c.K())
			}
			if !bytes.Equal(second, want) {
				t.Errorf("n %d, k %d: a fragment has changed with another", c.N(), c.K())
			}
			fragmented(t, c, lost, shard, want...) // the code has not changed
		}
	}
}

// apart checks that what call returns, which is to be want, shares no memory with the parts it is given, with what it
// returned before, or with anything that it keeps.
func apart(t *testing.T, l []msr.Part, want []byte, call func([]msr.Part) ([]byte, api.Errno)) {
	t.Helper()
	list, all, memory := roomyParts(l)
	first, e := call(list)
	second, _ := call(list)
	if e != api.OK {
		t.Fatal(e)
	}
	for _, m := range memory {
		scrawl(m)
	}
	if !bytes.Equal(first, want) {
		t.Fatalf("the shard has changed with the parts: %v, want %v", first, want)
	}
	beforeList, beforeMemory := slices.Clone(all), copied(memory)
	scrawl(first)
	if !sameParts(all, beforeList) || !sameLists(memory, beforeMemory) {
		t.Error("the parts have changed with the shard")
	}
	if !bytes.Equal(second, want) {
		t.Error("a shard has changed with another")
	}
	if third, e := call(l); e != api.OK || !bytes.Equal(third, want) {
		t.Errorf("a shard has changed with the calls before: %v, %d, want %v", third, e, want)
	}
}

func TestShardsAreApart(t *testing.T) {
	d := dice(25)
	for _, c := range codes(t) {
		shards := encode(t, c, d.list(c.Symbols()*2))
		lost := d.below(c.N())
		slots := d.mixed(others(c, lost))
		apart(t, send(t, c, lost, shards, slots[:c.Helpers()]...), shards[lost], func(l []msr.Part) ([]byte, api.Errno) {
			return Regenerate(c, lost, l)
		})
		apart(t, pick(shards, slots...), shards[lost], func(l []msr.Part) ([]byte, api.Errno) {
			return Whole(c, lost, l)
		})
		// Also where the shard that is wanted is among those that are given.
		apart(t, pick(shards, append([]int{lost}, slots...)...), shards[lost], func(l []msr.Part) ([]byte, api.Errno) {
			return Whole(c, lost, l)
		})
	}
}

// The results of a call depend on its arguments alone, not on the calls before.
func TestCallsBeforeDoNotMatter(t *testing.T) {
	d := dice(26)
	for _, c := range codes(t) {
		shards := encode(t, c, d.list(c.Symbols()*3))
		lost := d.below(c.N())
		slots := d.mixed(others(c, lost))
		f := fragment(t, c, lost, shards[slots[0]])
		l := send(t, c, lost, shards, slots[:c.Helpers()]...)
		regenerated(t, c, lost, l, shards[lost]...)

		refusedFragment(t, c, c.N(), shards[0])
		refusedRegenerate(t, c, lost, l[1:], api.ErrFew)
		refusedRegenerate(t, c, lost, append(slices.Clone(l), l[0]), api.ErrArg)
		refusedWhole(t, c, lost, nil, api.ErrFew)
		other := slots[0]
		regenerated(t, c, other, send(t, c, other, shards, others(c, other)...), shards[other]...)
		made(t, c, other, pick(shards, slots...), shards[other]...)
		regenerated(t, code(t, 3, 2), 2, sent(5, 2), 11)

		fragmented(t, c, lost, shards[slots[0]], f...)
		regenerated(t, c, lost, l, shards[lost]...)
		made(t, c, lost, pick(shards, slots...), shards[lost]...)
		costs(t, c, len(shards[0]), 6*c.Parts(), 3*c.Parts()*c.K())
		regenerated(t, code(t, c.N(), c.K()), lost, l, shards[lost]...)
		if again := encode(t, c, decodedBack(t, c, shards)); !sameLists(again, shards) {
			t.Errorf("n %d, k %d: the code has changed", c.N(), c.K())
		}
	}
}

// decodedBack makes the message of all the shards of a code.
func decodedBack(t *testing.T, c *msr.Code, shards [][]byte) []byte {
	t.Helper()
	b, e := c.Decode(pick(shards, upTo(c.N())...))
	if e != api.OK {
		t.Fatal(e)
	}
	return b
}
