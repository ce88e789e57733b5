// Package pack encodes integers and byte strings in bytes, the least significant byte first.
package pack

import (
	"bytes"

	"coldframe/api"
)

// The bytes that numbers take. Writer and Reader share them, so that what one writes the other reads.
const (
	maxSize    = 8
	textSize   = 2
	objectSize = 4
	stripeSize = 2
	slotSize   = 2
	genSize    = 4
)

// Writer gathers bytes. The zero Writer holds none.
type Writer struct {
	b []byte
}

// Num appends the lowest size bytes of n. A size below 0 counts as 0, one above 8 as 8.
func (w *Writer) Num(n uint64, size int) *Writer {
	var b []byte
	for i := range min(max(size, 0), maxSize) {
		b = append(b, byte(n>>(8*i)))
	}
	return w.Raw(b)
}

// Raw appends bytes as they are.
func (w *Writer) Raw(b []byte) *Writer {
	if w != nil {
		w.b = append(w.b, b...)
	}
	return w
}

// Text appends the length of b in two bytes, and then b. The bytes of a longer text
// are appended all the same, though its length is cut to its lowest two bytes.
func (w *Writer) Text(b []byte) *Writer {
	return w.Num(uint64(len(b)), textSize).Raw(b)
}

// Shard appends the name of a shard.
func (w *Writer) Shard(s api.Shard) *Writer {
	w.Num(uint64(s.Object), objectSize)
	w.Num(uint64(s.Stripe), stripeSize)
	w.Num(uint64(s.Slot), slotSize)
	return w.Num(uint64(s.Gen), genSize)
}

// Bytes returns a copy of all bytes, so that the caller's changes to it and later writes do not meet.
func (w *Writer) Bytes() []byte {
	if w == nil {
		return nil
	}
	return bytes.Clone(w.b)
}

// Reader takes bytes from the front. A nil Reader is torn and has no bytes.
type Reader struct {
	left []byte
	torn bool
}

// Read returns a reader of a copy of b, so that it does not see later changes to b.
func Read(b []byte) *Reader {
	return &Reader{left: bytes.Clone(b)}
}

// take removes the next n bytes. The result is part of the reader's memory and is not to be handed out.
func (r *Reader) take(n int) []byte {
	if r == nil {
		return nil
	}
	if n < 0 || n > len(r.left) {
		r.left, r.torn = nil, true
		return nil
	}
	b := r.left[:n]
	r.left = r.left[n:]
	return b
}

// Num reads a number of size bytes. A size that is not from 0 to 8 tears the reader.
func (r *Reader) Num(size int) uint64 {
	if size > maxSize {
		size = -1 // even if so many bytes remain, there is no such number
	}
	var n uint64
	for i, b := range r.take(size) {
		n |= uint64(b) << (8 * i)
	}
	return n
}

// Raw reads n bytes.
func (r *Reader) Raw(n int) []byte {
	return bytes.Clone(r.take(n))
}

// Text reads a length of two bytes and then so many bytes.
func (r *Reader) Text() []byte {
	return r.Raw(int(r.Num(textSize)))
}

// Shard reads the name of a shard. If bytes are missing for a number, no bytes remain
// for the later ones either, so that these are 0 and the earlier ones stand.
func (r *Reader) Shard() api.Shard {
	var s api.Shard
	s.Object = uint32(r.Num(objectSize))
	s.Stripe = uint16(r.Num(stripeSize))
	s.Slot = uint16(r.Num(slotSize))
	s.Gen = uint32(r.Num(genSize))
	return s
}

// Rest reads all remaining bytes.
func (r *Reader) Rest() []byte {
	return r.Raw(r.Left())
}

// Left returns how many bytes remain.
func (r *Reader) Left() int {
	if r == nil {
		return 0
	}
	return len(r.left)
}

// Torn reports whether a call found too few bytes or a wrong size, or the reader is nil.
func (r *Reader) Torn() bool {
	return r == nil || r.torn
}

// Done reports whether every call found its bytes, and none remain.
func (r *Reader) Done() bool {
	return !r.Torn() && r.Left() == 0
}
