package wire

import (
	"bytes"
	"encoding/binary"
	"fmt"
	"math"
	"slices"
	"strings"
	"testing"

	"coldframe/api"
)

// dice makes numbers that look as if they were random; the seed tells which.
type dice uint64

// below returns a number from 0 to n - 1.
func (d *dice) below(n int) int {
	*d = *d*6364136223846793005 + 1442695040888963407
	return int(*d>>33) % n
}

// text makes n bytes.
func (d *dice) text(n int) string {
	b := make([]byte, n)
	for i := range b {
		b[i] = byte(d.below(256))
	}
	return string(b)
}

// pick picks one of several.
func pick[T any](d *dice, l []T) T {
	return l[d.below(len(l))]
}

// request makes a request.
func request(kind int, num uint64, s api.Shard, lost uint16, data string) Request {
	return Request{Num: num, Kind: kind, S: s, Lost: lost, Data: []byte(data)}
}

// asked makes the bytes of a request by hand, of one that is not right, too.
func asked(kind byte, num uint64, s api.Shard, lost uint16, data string) string {
	b := []byte{kind}
	b = binary.LittleEndian.AppendUint64(b, num)
	b = binary.LittleEndian.AppendUint32(b, s.Object)
	b = binary.LittleEndian.AppendUint16(b, s.Stripe)
	b = binary.LittleEndian.AppendUint16(b, s.Slot)
	b = binary.LittleEndian.AppendUint32(b, s.Gen)
	b = binary.LittleEndian.AppendUint16(b, lost)
	return string(b) + data
}

// answered makes the bytes of a reply by hand, of one that there is not, too.
func answered(num uint64, e byte, data string) string {
	b := binary.LittleEndian.AppendUint64(nil, num)
	return string(append(b, e)) + data
}

// sameRequest tells whether two requests are the same.
func sameRequest(a, b Request) bool {
	return a.Num == b.Num && a.Kind == b.Kind && a.S == b.S && a.Lost == b.Lost && bytes.Equal(a.Data, b.Data)
}

// sameReply tells whether two replies are the same.
func sameReply(a, b Reply) bool {
	return a.Num == b.Num && a.E == b.E && bytes.Equal(a.Data, b.Data)
}

// tell tells a request or a reply, if it is long only in part.
func tell(x any) string {
	return fmt.Sprintf("%.80s", fmt.Sprintf("%+v", x))
}

// writes checks the bytes of a request that is right, and that they are read again as that request.
func writes(t *testing.T, q Request, want string) {
	t.Helper()
	if !q.Right() {
		t.Errorf("%s is not right", tell(q))
	}
	if b := q.Bytes(); string(b) != want {
		t.Errorf("Bytes of %s: %.80q, want %.80q", tell(q), b, want)
	}
	if got, e := ParseRequest([]byte(want)); e != api.OK || !sameRequest(got, q) {
		t.Errorf("ParseRequest of %.80q: %s, error %d; want %s", want, tell(got), e, tell(q))
	}
}

// wrong checks that a request is not right, and that there are no bytes of it.
func wrong(t *testing.T, q Request) {
	t.Helper()
	if q.Right() {
		t.Errorf("%s is right", tell(q))
	}
	if b := q.Bytes(); len(b) > 0 {
		t.Errorf("Bytes of %s: %.80q, want nothing", tell(q), b)
	}
}

// noRequest checks that bytes are read as no request.
func noRequest(t *testing.T, what, b string) {
	t.Helper()
	q, e := ParseRequest([]byte(b))
	if e != api.ErrForm {
		t.Errorf("%s: ParseRequest of %.80q: error %d, want %d", what, b, e, api.ErrForm)
	}
	if !sameRequest(q, Request{}) {
		t.Errorf("%s: ParseRequest of %.80q: %s, want the zero value", what, b, tell(q))
	}
}

// replies checks the bytes of a reply, and that they are read again as that reply.
func replies(t *testing.T, p Reply, want string) {
	t.Helper()
	if b := p.Bytes(); string(b) != want {
		t.Errorf("Bytes of %s: %.80q, want %.80q", tell(p), b, want)
	}
	if got, e := ParseReply([]byte(want)); e != api.OK || !sameReply(got, p) {
		t.Errorf("ParseReply of %.80q: %s, error %d; want %s", want, tell(got), e, tell(p))
	}
}

// noReply checks that bytes are read as no reply.
func noReply(t *testing.T, what, b string) {
	t.Helper()
	p, e := ParseReply([]byte(b))
	if e != api.ErrForm {
		t.Errorf("%s: ParseReply of %.80q: error %d, want %d", what, b, e, api.ErrForm)
	}
	if !sameReply(p, Reply{}) {
		t.Errorf("%s: ParseReply of %.80q: %s, want the zero value", what, b, tell(p))
	}
}

// kinds are all kinds that there are.
var kinds = []int{Ping, Put, Get, Help, Drop, Check}

// noKinds are kinds that there are not, among them some whose lowest byte is that of one that there is.
var noKinds = []int{math.MinInt, math.MinInt + Put, -1 << 32, Put - 1<<32, Ping - 256, Put - 256, Help - 256, -Put, -2, -1, 0, 7, 8, 127, 128, 255,
	256, 256 + Ping, 256 + Put, 256 + Help, 256 + Check, 1<<16 + Put, 1<<31 + Put, 1 << 32, 1<<32 + Put, 1<<32 + Help, math.MaxInt}

// nums are numbers of requests, among them those of which one byte alone is not 0.
var nums = []uint64{0, 1, 2, 77, 255, 256, 1 << 16, 1 << 24, 1<<32 - 1, 1 << 32, 1 << 40, 1 << 48, 1 << 56, 1 << 63, 0x8877665544332211, math.MaxUint64 - 1, math.MaxUint64}

// shards are names of shards, among them those of which one byte alone is not 0.
var shards = []api.Shard{
	{}, {Object: 1}, {Stripe: 1}, {Slot: 1}, {Gen: 1}, {Object: 7, Stripe: 31, Slot: 23, Gen: 2},
	{Object: 1 << 8}, {Object: 1 << 16}, {Object: 1 << 24}, {Stripe: 1 << 8}, {Slot: 1 << 8}, {Gen: 1 << 8}, {Gen: 1 << 16}, {Gen: 1 << 24},
	{Object: math.MaxUint32}, {Stripe: math.MaxUint16}, {Slot: math.MaxUint16}, {Gen: math.MaxUint32},
	{Object: math.MaxUint32, Stripe: math.MaxUint16, Slot: math.MaxUint16, Gen: math.MaxUint32},
	{Object: 0x44332211, Stripe: 0x6655, Slot: 0x8877, Gen: 0xccbbaa99},
}

// slots are lost slots.
var slots = []uint16{0, 1, 2, 23, 24, 255, 256, 0x2211, 1 << 15, math.MaxUint16 - 1, math.MaxUint16}

// texts are data of several lengths.
var texts = []string{"", "a", "\x00", "\xff", "data", strings.Repeat("\x00", 23), strings.Repeat("\xff", 255), strings.Repeat("0123456789", 30), strings.Repeat("ab", 1<<15), strings.Repeat("c", 1<<16+1)}

// errnos are errors that a reply may have.
func errnos() []api.Errno {
	l := make([]api.Errno, 256)
	for i := range l {
		l[i] = api.Errno(i)
	}
	return l
}

// each calls f with every request of some kinds that the lists above make, of data only if it is a Put, and of a lost
// slot only if it is a Help.
func each(f func(kind int, num uint64, s api.Shard, lost uint16, data string)) {
	for _, kind := range kinds {
		for _, num := range nums {
			for _, s := range shards {
				f(kind, num, s, 0, "")
			}
		}
	}
	for _, num := range nums {
		for _, lost := range slots {
			f(Help, num, shards[5], lost, "")
			f(Help, num, shards[len(shards)-1], lost, "")
		}
		for _, text := range texts {
			f(Put, num, shards[5], 0, text)
			f(Put, num, shards[len(shards)-1], 0, text)
		}
	}
}

// P15.1

func TestKinds(t *testing.T) {
	if !slices.Equal(kinds, []int{1, 2, 3, 4, 5, 6}) {
		t.Errorf("the kinds are %v", kinds)
	}
}

func TestName(t *testing.T) {
	for kind, want := range map[int]string{Ping: "ping", Put: "put", Get: "get", Help: "help", Drop: "drop", Check: "check"} {
		if name := Name(kind); name != want {
			t.Errorf("Name(%d) is %q, want %q", kind, name, want)
		}
	}
	for i, want := range []string{"", "ping", "put", "get", "help", "drop", "check", "", ""} {
		if name := Name(i); name != want {
			t.Errorf("Name(%d) is %q, want %q", i, name, want)
		}
	}
}

func TestNoName(t *testing.T) {
	for _, kind := range noKinds {
		if name := Name(kind); name != "" {
			t.Errorf("Name(%d) is %q, want none", kind, name)
		}
	}
	for kind := -1000; kind <= 70000; kind++ {
		if (Name(kind) != "") != (kind >= 1 && kind <= 6) {
			t.Errorf("Name(%d) is %q", kind, Name(kind))
		}
	}
}

func TestRight(t *testing.T) {
	for _, kind := range kinds {
		for _, lost := range []uint16{0, 1, 255, 256, math.MaxUint16} {
			for i, data := range [][]byte{nil, {}, {0}, {1}, []byte("data"), make([]byte, 256), make([]byte, 1<<16)} {
				q := Request{Num: 9, Kind: kind, S: shards[5], Lost: lost, Data: data}
				want := (i < 2 || kind == Put) && (lost == 0 || kind == Help)
				if got := q.Right(); got != want {
					t.Errorf("Right of a %s, Lost %d, %d bytes of Data: %v", Name(kind), lost, len(data), got)
				}
				if got := len(q.Bytes()) > 0; got != want {
					t.Errorf("a %s, Lost %d, %d bytes of Data: has Bytes: %v", Name(kind), lost, len(data), got)
				}
			}
		}
	}
}

func TestRightOfEachKindByHand(t *testing.T) {
	for _, c := range []struct {
		kind              int
		bare, lost, bytes bool
	}{
		{Ping, true, false, false},
		{Put, true, false, true},
		{Get, true, false, false},
		{Help, true, true, false},
		{Drop, true, false, false},
		{Check, true, false, false},
		{0, false, false, false},
		{7, false, false, false},
		{-1, false, false, false},
		{math.MinInt, false, false, false},
		{math.MaxInt, false, false, false},
	} {
		if got := (Request{Kind: c.kind}).Right(); got != c.bare {
			t.Errorf("kind %d alone: %v", c.kind, got)
		}
		if got := (Request{Kind: c.kind, Data: []byte{}}).Right(); got != c.bare {
			t.Errorf("kind %d with Data of no bytes: %v", c.kind, got)
		}
		for _, lost := range []uint16{1, 65535} {
			if got := (Request{Kind: c.kind, Lost: lost}).Right(); got != c.lost {
				t.Errorf("kind %d with Lost %d: %v", c.kind, lost, got)
			}
			if (Request{Kind: c.kind, Lost: lost, Data: []byte{0}}).Right() {
				t.Errorf("kind %d with Lost %d and Data is right", c.kind, lost)
			}
		}
		if got := (Request{Kind: c.kind, Data: []byte{0}}).Right(); got != c.bytes {
			t.Errorf("kind %d with Data: %v", c.kind, got)
		}
	}
}

func TestNotRightWithoutName(t *testing.T) {
	for _, kind := range noKinds {
		for _, lost := range []uint16{0, 1, math.MaxUint16} {
			for _, text := range []string{"", "a", "data"} {
				wrong(t, request(kind, 0, api.Shard{}, lost, text))
				wrong(t, request(kind, 77, shards[5], lost, text))
			}
		}
	}
	wrong(t, Request{})
}

func TestRightHangsNeitherOnNumNorOnShard(t *testing.T) {
	each(func(kind int, num uint64, s api.Shard, lost uint16, data string) {
		if q := request(kind, num, s, lost, data); !q.Right() {
			t.Errorf("%s is not right", tell(q))
		}
		wrong(t, request(0, num, s, lost, data))
		wrong(t, request(kind, num, s, 1, data+"a"))
	})
}

// P15.2

func TestBytes(t *testing.T) {
	each(func(kind int, num uint64, s api.Shard, lost uint16, data string) {
		writes(t, request(kind, num, s, lost, data), asked(byte(kind), num, s, lost, data))
	})
}

func TestBytesByteByByte(t *testing.T) {
	s := api.Shard{Object: 0x0c0b0a09, Stripe: 0x0e0d, Slot: 0x100f, Gen: 0x14131211}
	head := "\x01\x02\x03\x04\x05\x06\x07\x08" + "\x09\x0a\x0b\x0c" + "\x0d\x0e" + "\x0f\x10" + "\x11\x12\x13\x14"
	num := uint64(0x0807060504030201)
	writes(t, request(Ping, num, s, 0, ""), "\x01"+head+"\x00\x00")
	writes(t, request(Put, num, s, 0, "xyz"), "\x02"+head+"\x00\x00xyz")
	writes(t, request(Get, num, s, 0, ""), "\x03"+head+"\x00\x00")
	writes(t, request(Help, num, s, 0x1615, ""), "\x04"+head+"\x15\x16")
	writes(t, request(Drop, num, s, 0, ""), "\x05"+head+"\x00\x00")
	writes(t, request(Check, num, s, 0, ""), "\x06"+head+"\x00\x00")
}

func TestBytesOfNothingBesideTheKind(t *testing.T) {
	for _, kind := range kinds {
		writes(t, Request{Kind: kind}, string(rune(kind))+strings.Repeat("\x00", 22))
		writes(t, Request{Kind: kind, Data: []byte{}}, string(rune(kind))+strings.Repeat("\x00", 22))
	}
}

func TestBytesOfTheGreatestOfAll(t *testing.T) {
	s := api.Shard{Object: math.MaxUint32, Stripe: math.MaxUint16, Slot: math.MaxUint16, Gen: math.MaxUint32}
	ff := strings.Repeat("\xff", 20)
	for _, kind := range kinds {
		if kind != Help {
			writes(t, request(kind, math.MaxUint64, s, 0, ""), string(rune(kind))+ff+"\x00\x00")
		}
	}
	writes(t, request(Help, math.MaxUint64, s, math.MaxUint16, ""), "\x04"+ff+"\xff\xff")
	writes(t, request(Put, math.MaxUint64, s, 0, "\xff\xff"), "\x02"+ff+"\x00\x00\xff\xff")
}

func TestBytesOfPuts(t *testing.T) {
	d := dice(1)
	for _, n := range []int{0, 1, 2, 3, 22, 23, 24, 255, 256, 257, 4096, 1<<16 - 1, 1 << 16, 1<<16 + 1, 1 << 20} {
		data := d.text(n)
		q := request(Put, 5, shards[5], 0, data)
		writes(t, q, asked(2, 5, shards[5], 0, data))
		if len(q.Bytes()) != 23+n {
			t.Errorf("a Put of %d bytes: %d bytes", n, len(q.Bytes()))
		}
	}
}

func TestNoBytesOfWhatIsNotRight(t *testing.T) {
	for _, kind := range kinds {
		for _, num := range nums {
			if kind != Put {
				wrong(t, request(kind, num, shards[5], 0, "\x00"))
				wrong(t, request(kind, num, shards[5], 0, "data"))
			}
			if kind != Help {
				wrong(t, request(kind, num, shards[5], 1, ""))
				wrong(t, request(kind, num, shards[5], 256, ""))
				wrong(t, request(kind, num, shards[5], math.MaxUint16, ""))
			}
			wrong(t, request(kind, num, shards[5], 1, "data"))
		}
	}
}

func TestParseRequestOfTooFewBytes(t *testing.T) {
	if q, e := ParseRequest(nil); e != api.ErrForm || !sameRequest(q, Request{}) {
		t.Errorf("ParseRequest(nil): %s, error %d", tell(q), e)
	}
	for kind := range 256 {
		for _, fill := range []string{"\x00", "\x01", "\xff"} {
			b := string([]byte{byte(kind)}) + strings.Repeat(fill, 21)
			for n := range 23 {
				noRequest(t, fmt.Sprintf("%d bytes", n), b[:n])
			}
		}
	}
	for _, kind := range kinds {
		b := asked(byte(kind), math.MaxUint64, shards[5], 0, "")
		for n := range 23 {
			noRequest(t, fmt.Sprintf("%d bytes", n), b[:n])
		}
	}
}

func TestParseRequestOfMoreBytes(t *testing.T) {
	for _, more := range []string{"\x00", "\x01", "\xff", "data", strings.Repeat("\x00", 100)} {
		writes(t, request(Put, 5, shards[5], 0, more), asked(2, 5, shards[5], 0, more))
		for _, kind := range kinds {
			if kind != Put {
				noRequest(t, Name(kind)+" and more", asked(byte(kind), 5, shards[5], 0, more))
				noRequest(t, Name(kind)+" of zeros and more", asked(byte(kind), 0, api.Shard{}, 0, more))
			}
		}
		noRequest(t, "Help with Lost and more", asked(4, 5, shards[5], 1, more))
		noRequest(t, "Put with Lost", asked(2, 5, shards[5], 1, more))
	}
}

func TestParseRequestOfEachKind(t *testing.T) {
	for kind := range 256 {
		for _, lost := range []uint16{0, 1, 256, math.MaxUint16} {
			b := asked(byte(kind), 5, shards[5], lost, "")
			if kind >= 1 && kind <= 6 && (lost == 0 || kind == 4) {
				writes(t, request(kind, 5, shards[5], lost, ""), b)
			} else {
				noRequest(t, fmt.Sprintf("kind %d, Lost %d", kind, lost), b)
			}
		}
		if kind != 2 {
			noRequest(t, fmt.Sprintf("kind %d with Data", kind), asked(byte(kind), 5, shards[5], 0, "a"))
		}
	}
}

// A byte that is changed makes another request, or none, by the place and by what it becomes.
func TestParseRequestOfAChangedByte(t *testing.T) {
	for _, c := range []struct {
		kind byte
		lost uint16
		data string
	}{{1, 0, ""}, {2, 0, ""}, {2, 0, "abc"}, {3, 0, ""}, {4, 0, ""}, {4, 0x0101, ""}, {5, 0, ""}, {6, 0, ""}} {
		b := asked(c.kind, 0x0102030405060708, shards[len(shards)-1], c.lost, c.data)
		for at := range b {
			for x := range 256 {
				changed := []byte(b)
				changed[at] = byte(x)
				parses(t, changed)
			}
		}
	}
}

// parses checks ParseRequest of any bytes against a slow reading of them.
func parses(t *testing.T, b []byte) {
	t.Helper()
	s := string(b)
	if len(s) < 23 || s[0] < 1 || s[0] > 6 || s[0] != 4 && s[21:23] != "\x00\x00" || s[0] != 2 && len(s) > 23 {
		noRequest(t, "changed", s)
		return
	}
	writes(t, Request{
		Kind: int(s[0]),
		Num:  number(s[1:9]),
		S:    api.Shard{Object: uint32(number(s[9:13])), Stripe: uint16(number(s[13:15])), Slot: uint16(number(s[15:17])), Gen: uint32(number(s[17:21]))},
		Lost: uint16(number(s[21:23])),
		Data: b[23:],
	}, s)
}

// number reads a number of any size.
func number(s string) uint64 {
	var n uint64
	for i := len(s); i > 0; i-- {
		n = n*256 + uint64(s[i-1])
	}
	return n
}

// P15.3

func TestBytesOfReplies(t *testing.T) {
	for _, num := range nums {
		for _, e := range errnos() {
			replies(t, Reply{Num: num, E: e}, answered(num, byte(e), ""))
			replies(t, Reply{Num: num, E: e, Data: []byte{}}, answered(num, byte(e), ""))
		}
		for _, text := range texts {
			replies(t, Reply{Num: num, Data: []byte(text)}, answered(num, 0, text))
		}
	}
}

func TestBytesOfRepliesByteByByte(t *testing.T) {
	num := uint64(0x0807060504030201)
	head := "\x01\x02\x03\x04\x05\x06\x07\x08"
	replies(t, Reply{}, strings.Repeat("\x00", 9))
	replies(t, Reply{Num: num}, head+"\x00")
	replies(t, Reply{Num: num, Data: []byte("x")}, head+"\x00x")
	replies(t, Reply{Num: num, Data: []byte("many bytes")}, head+"\x00many bytes")
	replies(t, Reply{Num: num, E: 1}, head+"\x01")
	replies(t, Reply{Num: num, E: api.ErrSum}, head+"\x16")
	replies(t, Reply{Num: num, E: 255}, head+"\xff")
	replies(t, Reply{Num: math.MaxUint64, E: 255}, strings.Repeat("\xff", 9))
	replies(t, Reply{Num: math.MaxUint64, Data: []byte("\xff")}, strings.Repeat("\xff", 8)+"\x00\xff")
}

func TestBytesOfRepliesWithMuchData(t *testing.T) {
	d := dice(2)
	for _, n := range []int{1, 2, 8, 9, 10, 255, 256, 257, 4096, 1<<16 - 1, 1 << 16, 1<<16 + 1, 1 << 20} {
		data := d.text(n)
		replies(t, Reply{Num: 5, Data: []byte(data)}, answered(5, 0, data))
	}
}

// The chapter speaks of no others; bytes of them would be read as something else, or not at all.
func TestNoBytesOfOtherReplies(t *testing.T) {
	for _, p := range []Reply{
		{Num: 1, E: -1}, {Num: 1, E: 256}, {Num: 1, E: 257}, {Num: 1, E: -256}, {Num: 1, E: 1 << 32}, {Num: 1, E: math.MinInt}, {Num: 1, E: math.MaxInt},
		{Num: 1, E: 1, Data: []byte{0}}, {Num: 1, E: 255, Data: []byte("data")}, {Num: 1, E: 256, Data: []byte("data")}, {Num: 1, E: -1, Data: []byte("data")},
	} {
		if b := p.Bytes(); len(b) > 0 {
			t.Errorf("Bytes of %s: %q, want nothing", tell(p), b)
		}
	}
}

func TestParseReplyOfTooFewBytes(t *testing.T) {
	if p, e := ParseReply(nil); e != api.ErrForm || !sameReply(p, Reply{}) {
		t.Errorf("ParseReply(nil): %s, error %d", tell(p), e)
	}
	for _, fill := range []string{"\x00", "\x01", "\xff"} {
		for n := range 9 {
			noReply(t, fmt.Sprintf("%d bytes", n), strings.Repeat(fill, n))
		}
	}
}

func TestParseReplyOfMoreBytes(t *testing.T) {
	for _, more := range []string{"\x00", "\x01", "\xff", "data", strings.Repeat("\x00", 100)} {
		for e := range 256 {
			if e == 0 {
				replies(t, Reply{Num: 5, Data: []byte(more)}, answered(5, 0, more))
			} else {
				noReply(t, fmt.Sprintf("error %d and more", e), answered(5, byte(e), more))
				noReply(t, fmt.Sprintf("error %d and more", e), answered(0, byte(e), more))
			}
		}
	}
}

func TestParseReplyOfAChangedByte(t *testing.T) {
	for _, b := range []string{answered(0x0102030405060708, 0, ""), answered(0, 7, ""), answered(math.MaxUint64, 0, "abc")} {
		for at := range b {
			for x := range 256 {
				changed := []byte(b)
				changed[at] = byte(x)
				parsesReply(t, changed)
			}
		}
	}
}

// parsesReply checks ParseReply of any bytes against a slow reading of them.
func parsesReply(t *testing.T, b []byte) {
	t.Helper()
	s := string(b)
	if len(s) < 9 || s[8] != 0 && len(s) > 9 {
		noReply(t, "changed", s)
		return
	}
	replies(t, Reply{Num: number(s[:8]), E: api.Errno(s[8]), Data: b[9:]}, s)
}

// P15.4

func TestAnyRequestIsReadAsItWasWritten(t *testing.T) {
	d := dice(3)
	for range 20000 {
		q := Request{Num: pick(&d, nums), Kind: pick(&d, kinds), S: pick(&d, shards)}
		if q.Kind == Put {
			q.Data = []byte(d.text(d.below(40)))
		}
		if q.Kind == Help {
			q.Lost = uint16(d.below(1 << 16))
		}
		got, e := ParseRequest(q.Bytes())
		if e != api.OK || !sameRequest(got, q) {
			t.Errorf("%s is read as %s, error %d", tell(q), tell(got), e)
		}
	}
}

func TestAnyReplyIsReadAsItWasWritten(t *testing.T) {
	d := dice(4)
	for range 20000 {
		p := Reply{Num: pick(&d, nums)}
		if d.below(2) == 0 {
			p.E = api.Errno(d.below(256))
		} else {
			p.Data = []byte(d.text(d.below(40)))
		}
		got, e := ParseReply(p.Bytes())
		if e != api.OK || !sameReply(got, p) {
			t.Errorf("%s is read as %s, error %d", tell(p), tell(got), e)
		}
	}
}

// Most bytes by chance are nothing, so that these are made to come near to something.
func TestAnyBytesThatAreReadAreWrittenSoAgain(t *testing.T) {
	d := dice(5)
	requests, answers := 0, 0
	for range 50000 {
		b := []byte(d.text(20 + d.below(7)))
		b[0] = byte(d.below(9))
		if len(b) > 22 && d.below(3) > 0 {
			b[21], b[22] = 0, byte(d.below(2))
		}
		parses(t, b)
		if q, e := ParseRequest(b); e == api.OK {
			requests++
			if !bytes.Equal(q.Bytes(), b) {
				t.Errorf("%q is read as %s, written as %q", b, tell(q), q.Bytes())
			}
		}
		b = []byte(d.text(6 + d.below(6)))
		if len(b) > 8 && d.below(2) == 0 {
			b[8] = 0
		}
		parsesReply(t, b)
		if p, e := ParseReply(b); e == api.OK {
			answers++
			if !bytes.Equal(p.Bytes(), b) {
				t.Errorf("%q is read as %s, written as %q", b, tell(p), p.Bytes())
			}
		}
	}
	if requests < 1000 || requests > 49000 || answers < 1000 || answers > 49000 {
		t.Errorf("of 50000 each, %d are requests and %d replies", requests, answers)
	}
}

// Two requests that differ have bytes that differ.
func TestDifferentRequestsDifferInBytes(t *testing.T) {
	seen := map[string]Request{}
	each(func(kind int, num uint64, s api.Shard, lost uint16, data string) {
		q := request(kind, num, s, lost, data)
		b := string(q.Bytes())
		if was, ok := seen[b]; ok && !sameRequest(was, q) {
			t.Errorf("%s and %s have the same bytes", tell(was), tell(q))
		}
		seen[b] = q
	})
}

// Rules: determinism

func TestSameCallsSameAnswers(t *testing.T) {
	d := dice(6)
	for range 2000 {
		q := request(d.below(9), pick(&d, nums), pick(&d, shards), uint16(d.below(3)), d.text(d.below(2)))
		one, two := q.Bytes(), q.Bytes()
		if !bytes.Equal(one, two) || q.Right() != q.Right() || q.Right() != (len(one) > 0) {
			t.Errorf("%s: %q, %q", tell(q), one, two)
		}
		b := []byte(asked(byte(d.below(9)), pick(&d, nums), pick(&d, shards), uint16(d.below(2)), d.text(d.below(2))))
		x, e := ParseRequest(b)
		y, f := ParseRequest(b)
		if e != f || !sameRequest(x, y) {
			t.Errorf("%q: %s, %d and %s, %d", b, tell(x), e, tell(y), f)
		}
		b = []byte(answered(pick(&d, nums), byte(d.below(2)), d.text(d.below(2))))
		v, e := ParseReply(b)
		w, f := ParseReply(b)
		if e != f || !sameReply(v, w) {
			t.Errorf("%q: %s, %d and %s, %d", b, tell(v), e, tell(w), f)
		}
		if one, two := v.Bytes(), w.Bytes(); !bytes.Equal(one, two) {
			t.Errorf("%s: %q, %q", tell(v), one, two)
		}
	}
}

// Rules: memory

// spare makes b with n bytes of spare capacity, of which all are '#'.
func spare(b string, n int) []byte {
	all := []byte(b + strings.Repeat("#", n))
	return all[: len(b) : len(b)+n]
}

// untouched checks that b is as spare made it.
func untouched(t *testing.T, what string, b []byte, want string) {
	t.Helper()
	if string(b) != want {
		t.Errorf("%s: the argument has become %.80q", what, b)
	}
	if rest := b[len(b):cap(b)]; strings.Trim(string(rest), "#") != "" {
		t.Errorf("%s: the spare capacity of the argument has become %.80q", what, rest)
	}
}

// scribble overwrites all of b, its spare capacity too. Scribbling twice does not undo it.
func scribble(b []byte) {
	b = b[:cap(b)]
	for i := range b {
		b[i] += 0x25
	}
}

func TestDataIsNeitherChangedNorKept(t *testing.T) {
	for _, text := range []string{"", "a", "data", strings.Repeat("x", 1000)} {
		data := spare(text, 64)
		q := Request{Num: 1, Kind: Put, S: shards[5], Data: data}
		b := q.Bytes()
		q.Right()
		untouched(t, "Put", data, text)
		p := Reply{Num: 1, Data: data}
		c := p.Bytes()
		untouched(t, "a reply", data, text)
		scribble(data)
		if string(b) != asked(2, 1, shards[5], 0, text) || string(c) != answered(1, 0, text) {
			t.Errorf("the bytes changed with the Data: %.80q, %.80q", b, c)
		}
		now := string(data)
		scribble(b)
		scribble(c)
		if string(data) != now {
			t.Errorf("the Data changed with the bytes: %.80q", data)
		}
	}
}

func TestDataOfWhatIsNotRightIsNotChanged(t *testing.T) {
	data := spare("data", 64)
	for _, kind := range []int{Ping, Get, Help, Drop, Check, 0, 7, -1} {
		q := Request{Kind: kind, Data: data}
		q.Right()
		q.Bytes()
		untouched(t, "a wrong request", data, "data")
	}
	for _, e := range []api.Errno{-1, 1, 255, 256} {
		Reply{E: e, Data: data}.Bytes()
		untouched(t, "a wrong reply", data, "data")
	}
}

func TestMethodsChangeNoField(t *testing.T) {
	q := request(Put, 5, shards[5], 0, "data")
	q.Right()
	q.Bytes()
	if !sameRequest(q, request(Put, 5, shards[5], 0, "data")) {
		t.Error(tell(q))
	}
	q = request(7, 5, shards[5], 3, "data")
	q.Right()
	q.Bytes()
	if !sameRequest(q, request(7, 5, shards[5], 3, "data")) {
		t.Error(tell(q))
	}
	p := Reply{Num: 5, E: 256, Data: []byte("data")}
	p.Bytes()
	if !sameReply(p, Reply{Num: 5, E: 256, Data: []byte("data")}) {
		t.Error(tell(p))
	}
}

func TestParsedBytesAreNeitherChangedNorKept(t *testing.T) {
	for _, text := range []string{"", "a", "data", strings.Repeat("x", 1000)} {
		s := asked(2, 1, shards[5], 0, text)
		b := spare(s, 64)
		q, e := ParseRequest(b)
		untouched(t, "ParseRequest", b, s)
		scribble(b)
		if e != api.OK || !sameRequest(q, request(Put, 1, shards[5], 0, text)) {
			t.Errorf("the request changed with the bytes: %s, error %d", tell(q), e)
		}
		now := string(b)
		scribble(q.Data)
		if string(b) != now {
			t.Errorf("the bytes changed with the request: %.80q", b)
		}

		s = answered(1, 0, text)
		b = spare(s, 64)
		p, e := ParseReply(b)
		untouched(t, "ParseReply", b, s)
		scribble(b)
		if e != api.OK || !sameReply(p, Reply{Num: 1, Data: []byte(text)}) {
			t.Errorf("the reply changed with the bytes: %s, error %d", tell(p), e)
		}
		now = string(b)
		scribble(p.Data)
		if string(b) != now {
			t.Errorf("the bytes changed with the reply: %.80q", b)
		}
	}
}

func TestWrongBytesAreNotChanged(t *testing.T) {
	for _, s := range []string{"", "a", asked(2, 1, shards[5], 1, "data"), asked(7, 1, shards[5], 0, ""), asked(1, 1, shards[5], 0, "data"), answered(1, 1, "data"), answered(1, 1, "")[:8]} {
		b := spare(s, 64)
		ParseRequest(b)
		untouched(t, "ParseRequest", b, s)
		ParseReply(b)
		untouched(t, "ParseReply", b, s)
	}
}

func TestSpareCapacityDoesNotCount(t *testing.T) {
	whole := []byte(asked(2, 1, shards[5], 0, "data"))
	for n := range 23 {
		if q, e := ParseRequest(whole[:n]); e != api.ErrForm || !sameRequest(q, Request{}) {
			t.Errorf("%d bytes of 27: %s, error %d", n, tell(q), e)
		}
	}
	for n := 23; n <= 27; n++ {
		if q, e := ParseRequest(whole[:n]); e != api.OK || string(q.Data) != "data"[:n-23] {
			t.Errorf("%d bytes of 27: %s, error %d", n, tell(q), e)
		}
	}
	whole = []byte(asked(3, 1, shards[5], 0, "data"))
	if q, e := ParseRequest(whole[:23]); e != api.OK || len(q.Data) > 0 {
		t.Errorf("a Get: %s, error %d", tell(q), e)
	}
	whole = []byte(answered(1, 6, "data"))
	for n := range 9 {
		if p, e := ParseReply(whole[:n]); e != api.ErrForm || !sameReply(p, Reply{}) {
			t.Errorf("%d bytes of 13: %s, error %d", n, tell(p), e)
		}
	}
	if p, e := ParseReply(whole[:9]); e != api.OK || p.E != 6 || len(p.Data) > 0 {
		t.Errorf("an error: %s, error %d", tell(p), e)
	}
	data := []byte("data")
	if q := (Request{Kind: Get, Data: data[:0]}); !q.Right() || len(q.Bytes()) != 23 {
		t.Errorf("Data of no bytes counts: %q", q.Bytes())
	}
	if p := (Reply{E: 6, Data: data[:0]}); len(p.Bytes()) != 9 {
		t.Errorf("Data of no bytes counts: %q", p.Bytes())
	}
	if q := (Request{Kind: Put, Data: data[:2]}); string(q.Bytes()) != asked(2, 0, api.Shard{}, 0, "da") {
		t.Errorf("spare capacity is written: %q", q.Bytes())
	}
	if p := (Reply{Data: data[:2]}); string(p.Bytes()) != answered(0, 0, "da") {
		t.Errorf("spare capacity is written: %q", p.Bytes())
	}
}

// What is returned stays as it is, whatever is asked later and whatever becomes of other answers.
func TestRequestsThatAreReturnedStay(t *testing.T) {
	q, other := request(Put, 1, shards[5], 0, "data"), request(Put, 1, shards[5], 0, "atad")
	want := asked(2, 1, shards[5], 0, "data")
	stays := func(what string, b []byte) {
		t.Helper()
		if string(b) != want {
			t.Errorf("%s: %q", what, b)
		}
	}
	one := q.Bytes()
	stays("the first", one)
	two := q.Bytes()
	other.Bytes()
	ParseRequest([]byte(asked(2, 1, shards[5], 0, "atad")))
	stays("the first, later", one)
	stays("the second, later", two)
	scribble(one)
	stays("the second, apart from the first", two)
	stays("the third", q.Bytes())
	if string(q.Data) != "data" {
		t.Errorf("the Data: %q", q.Data)
	}

	b := []byte(want)
	same := func(what string, x Request) {
		t.Helper()
		if !sameRequest(x, q) {
			t.Errorf("%s: %s", what, tell(x))
		}
	}
	x, _ := ParseRequest(b)
	same("the first", x)
	y, _ := ParseRequest(b)
	ParseRequest([]byte(asked(2, 1, shards[5], 0, "atad")))
	other.Bytes()
	same("the first, later", x)
	same("the second, later", y)
	scribble(x.Data)
	same("the second, apart from the first", y)
	z, _ := ParseRequest(b)
	same("the third", z)
	stays("the argument", b)
}

func TestRepliesThatAreReturnedStay(t *testing.T) {
	p, other := Reply{Num: 1, Data: []byte("data")}, Reply{Num: 1, Data: []byte("atad")}
	want := answered(1, 0, "data")
	stays := func(what string, b []byte) {
		t.Helper()
		if string(b) != want {
			t.Errorf("%s: %q", what, b)
		}
	}
	one := p.Bytes()
	stays("the first", one)
	two := p.Bytes()
	other.Bytes()
	ParseReply([]byte(answered(1, 0, "atad")))
	stays("the first, later", one)
	stays("the second, later", two)
	scribble(one)
	stays("the second, apart from the first", two)
	stays("the third", p.Bytes())
	if string(p.Data) != "data" {
		t.Errorf("the Data: %q", p.Data)
	}

	b := []byte(want)
	same := func(what string, x Reply) {
		t.Helper()
		if !sameReply(x, p) {
			t.Errorf("%s: %s", what, tell(x))
		}
	}
	x, _ := ParseReply(b)
	same("the first", x)
	y, _ := ParseReply(b)
	ParseReply([]byte(answered(1, 0, "atad")))
	other.Bytes()
	same("the first, later", x)
	same("the second, later", y)
	scribble(x.Data)
	same("the second, apart from the first", y)
	z, _ := ParseReply(b)
	same("the third", z)
	stays("the argument", b)
}

// What is appended to one answer is not to be seen in another.
func TestAppendingToWhatIsReturned(t *testing.T) {
	q := request(Put, 1, shards[5], 0, "data")
	one := q.Bytes()
	two := append(one, "more"...)
	three := append(one, "less"...)
	if string(q.Bytes()) != asked(2, 1, shards[5], 0, "data") || string(three) != asked(2, 1, shards[5], 0, "dataless") {
		t.Errorf("%q, %q", two, three)
	}
	b := spare(asked(2, 1, shards[5], 0, "data"), 64)
	x, _ := ParseRequest(b)
	x.Data = append(x.Data, "more"...)
	untouched(t, "ParseRequest", b, asked(2, 1, shards[5], 0, "data"))
	b = spare(answered(1, 0, "data"), 64)
	y, _ := ParseReply(b)
	y.Data = append(y.Data, "more"...)
	untouched(t, "ParseReply", b, answered(1, 0, "data"))
}

// Examples

func TestExample(t *testing.T) {
	if b := (Request{Kind: Ping}).Bytes(); len(b) != 23 {
		t.Errorf("a Ping: %d bytes", len(b))
	}
	if b := (Request{Kind: Ping, Num: math.MaxUint64, S: shards[5]}).Bytes(); len(b) != 23 {
		t.Errorf("a Ping: %d bytes", len(b))
	}
}
