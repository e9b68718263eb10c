package frame

import (
	"bytes"
	"math"
	"slices"
	"testing"

	"servitor/api"
	"servitor/sum"
)

const (
	least = math.MinInt64
	great = math.MaxInt64
)

// knownFeed is a frame of what a drive tells, written out with its sum.
type knownFeed struct {
	f api.Feed
	b []byte
}

func knownFeeds() []knownFeed {
	return []knownFeed{
		{api.Feed{Seq: 5, Status: 7, Actual: -1}, []byte{0x46, 0x05, 0x07, 0xff, 0xff, 0xff, 0xff, 0xff, 0xff, 0xff, 0xff, 0xb4, 0x14}},
		{api.Feed{}, []byte{0x46, 0x00, 0x00, 0x00, 0x00, 0x00, 0x00, 0x00, 0x00, 0x00, 0x00, 0x61, 0x2e}},
		{api.Feed{Seq: 255, Status: 127, Actual: great}, []byte{0x46, 0xff, 0x7f, 0x7f, 0xff, 0xff, 0xff, 0xff, 0xff, 0xff, 0xff, 0x64, 0xc5}},
		{api.Feed{Seq: 128, Status: 64, Actual: least}, []byte{0x46, 0x80, 0x40, 0x80, 0x00, 0x00, 0x00, 0x00, 0x00, 0x00, 0x00, 0x27, 0x42}},
		{api.Feed{Seq: 1, Status: 2, Actual: 0x0102030405060708}, []byte{0x46, 0x01, 0x02, 0x01, 0x02, 0x03, 0x04, 0x05, 0x06, 0x07, 0x08, 0xbe, 0xa0}},
		{api.Feed{Seq: 200, Status: 99, Actual: -2}, []byte{0x46, 0xc8, 0x63, 0xff, 0xff, 0xff, 0xff, 0xff, 0xff, 0xff, 0xfe, 0xde, 0xea}},
	}
}

// knownSet is a frame of what a drive is told, written out with its sum.
type knownSet struct {
	s api.Set
	b []byte
}

func knownSets() []knownSet {
	return []knownSet{
		{api.Set{Seq: 5, Control: 7, Target: -1}, []byte{0x53, 0x05, 0x07, 0xff, 0xff, 0xff, 0xff, 0xff, 0xff, 0xff, 0xff, 0x68, 0x27}},
		{api.Set{}, []byte{0x53, 0x00, 0x00, 0x00, 0x00, 0x00, 0x00, 0x00, 0x00, 0x00, 0x00, 0xbd, 0x1d}},
		{api.Set{Seq: 255, Control: 7, Target: least}, []byte{0x53, 0xff, 0x07, 0x80, 0x00, 0x00, 0x00, 0x00, 0x00, 0x00, 0x00, 0x9c, 0x33}},
		{api.Set{Seq: 1, Control: 4, Target: great}, []byte{0x53, 0x01, 0x04, 0x7f, 0xff, 0xff, 0xff, 0xff, 0xff, 0xff, 0xff, 0x15, 0xd7}},
		{api.Set{Seq: 9, Control: 3, Target: -0x0102030405060708}, []byte{0x53, 0x09, 0x03, 0xfe, 0xfd, 0xfc, 0xfb, 0xfa, 0xf9, 0xf8, 0xf8, 0x94, 0xf5}},
		{api.Set{Seq: 17, Control: 1, Target: 0x7edcba9876543210}, []byte{0x53, 0x11, 0x01, 0x7e, 0xdc, 0xba, 0x98, 0x76, 0x54, 0x32, 0x10, 0x5f, 0xd8}},
	}
}

// places are those at both ends, about 0, about each byte's ends, and some with each byte other than the rest.
func places() []int64 {
	l := []int64{0, least, least + 1, great, great - 1, 0x0102030405060708, -0x0102030405060708, 0x7edcba9876543210, api.MaxPos, -api.MaxPos}
	for shift := range 63 {
		power := int64(1) << shift
		l = append(l, power, power-1, -power, -power-1)
	}
	return l
}

// wrongSeqs are no numbers of a frame; some are such in their lowest byte.
func wrongSeqs() []int {
	return []int{-1, 256, -2, 257, 300, -127, -128, -255, -256, 511, 512, 1 << 16, 1<<16 + 5, 1 << 31, 1 << 32, -1 << 31, -1 << 32, math.MaxInt, math.MinInt, math.MinInt + 5}
}

// wrongWords are not from 0 to most; some are so in their lowest byte.
func wrongWords(most int) []int {
	return append(wrongSeqs(), most+1, most+2, 2*most+1, 2*most+2, 128, 129, 255)
}

// laidOut is a frame as the chapter tells it, by division instead of shifts.
func laidOut(sign byte, seq, word int, place int64) []byte {
	b := []byte{sign, byte(seq), byte(word), 0, 0, 0, 0, 0, 0, 0, 0}
	n := uint64(place)
	for at := 10; at >= 3; at-- {
		b[at] = byte(n % 256)
		n /= 256
	}
	return withSum(b)
}

// withSum answers bytes with their sum behind them, whatever they are.
func withSum(b []byte) []byte {
	s := sum.Of(b)
	return append(bytes.Clone(b), byte(s/256), byte(s%256))
}

func tryPutFeed(t *testing.T, f api.Feed, want []byte) {
	t.Helper()
	if b, e := PutFeed(f); e != api.OK || !bytes.Equal(b, want) {
		t.Fatalf("PutFeed(%v): % x %d, not % x", f, b, e, want)
	}
}

func tryPutSet(t *testing.T, s api.Set, want []byte) {
	t.Helper()
	if b, e := PutSet(s); e != api.OK || !bytes.Equal(b, want) {
		t.Fatalf("PutSet(%v): % x %d, not % x", s, b, e, want)
	}
}

func tryReadFeed(t *testing.T, b []byte, want api.Feed, fault api.Errno) {
	t.Helper()
	if f, e := ReadFeed(b); f != want || e != fault {
		t.Fatalf("ReadFeed(% x): %v %d, not %v %d", b, f, e, want, fault)
	}
}

func tryReadSet(t *testing.T, b []byte, want api.Set, fault api.Errno) {
	t.Helper()
	if s, e := ReadSet(b); s != want || e != fault {
		t.Fatalf("ReadSet(% x): %v %d, not %v %d", b, s, e, want, fault)
	}
}

// tryNeither: neither way of reading reads b; both tell this error.
func tryNeither(t *testing.T, b []byte, fault api.Errno) {
	t.Helper()
	tryReadFeed(t, b, api.Feed{}, fault)
	tryReadSet(t, b, api.Set{}, fault)
}

// P3.1
func TestPutKnownFrames(t *testing.T) {
	for _, c := range knownFeeds() {
		tryPutFeed(t, c.f, c.b)
	}
	for _, c := range knownSets() {
		tryPutSet(t, c.s, c.b)
	}
}

// P3.1
func TestPutEachNumberAndWord(t *testing.T) {
	for _, place := range []int64{0, -1, 0x0102030405060708} {
		for seq := range 256 {
			for word := range 128 {
				tryPutFeed(t, api.Feed{Seq: seq, Status: word, Actual: place}, laidOut(0x46, seq, word, place))
			}
			for word := range 8 {
				tryPutSet(t, api.Set{Seq: seq, Control: word, Target: place}, laidOut(0x53, seq, word, place))
			}
		}
	}
}

// P3.1
func TestPutPlaces(t *testing.T) {
	for _, place := range places() {
		for _, seq := range []int{0, 77, 255} {
			tryPutFeed(t, api.Feed{Seq: seq, Status: 85, Actual: place}, laidOut(0x46, seq, 85, place))
			tryPutSet(t, api.Set{Seq: seq, Control: 5, Target: place}, laidOut(0x53, seq, 5, place))
		}
	}
}

func refuseFeed(t *testing.T, f api.Feed) {
	t.Helper()
	if b, e := PutFeed(f); e != api.ErrArg || len(b) != 0 {
		t.Errorf("PutFeed(%v): % x %d, not ErrArg alone", f, b, e)
	}
}

func refuseSet(t *testing.T, s api.Set) {
	t.Helper()
	if b, e := PutSet(s); e != api.ErrArg || len(b) != 0 {
		t.Errorf("PutSet(%v): % x %d, not ErrArg alone", s, b, e)
	}
}

// P3.1
func TestPutNoNumber(t *testing.T) {
	for _, seq := range wrongSeqs() {
		for _, place := range []int64{0, -1, least, great} {
			for _, word := range []int{0, 1, 7} {
				refuseFeed(t, api.Feed{Seq: seq, Status: word, Actual: place})
				refuseSet(t, api.Set{Seq: seq, Control: word, Target: place})
			}
			refuseFeed(t, api.Feed{Seq: seq, Status: 127, Actual: place})
		}
	}
}

// P3.1
func TestPutNoWord(t *testing.T) {
	for _, seq := range []int{0, 5, 255} {
		for _, word := range wrongWords(127) {
			refuseFeed(t, api.Feed{Seq: seq, Status: word, Actual: 3})
		}
		for _, word := range wrongWords(7) {
			refuseSet(t, api.Set{Seq: seq, Control: word, Target: 3})
		}
		for word := 8; word < 256; word++ {
			refuseSet(t, api.Set{Seq: seq, Control: word, Target: -3})
		}
	}
}

// P3.1
func TestPutNeitherNumberNorWord(t *testing.T) {
	for _, seq := range wrongSeqs() {
		for _, word := range wrongWords(127) {
			refuseFeed(t, api.Feed{Seq: seq, Status: word})
		}
		for _, word := range wrongWords(7) {
			refuseSet(t, api.Set{Seq: seq, Control: word})
		}
	}
}

// P3.2
func TestReadKnownFrames(t *testing.T) {
	for _, c := range knownFeeds() {
		tryReadFeed(t, c.b, c.f, api.OK)
	}
	for _, c := range knownSets() {
		tryReadSet(t, c.b, c.s, api.OK)
	}
}

// frames are some right ones, of both kinds.
func frames() [][]byte {
	var l [][]byte
	for _, c := range knownFeeds() {
		l = append(l, c.b)
	}
	for _, c := range knownSets() {
		l = append(l, c.b)
	}
	return l
}

// P3.2: too few bytes are told first, also where nothing else fits.
func TestReadTooFewBytes(t *testing.T) {
	tryNeither(t, nil, api.ErrShort)
	tryNeither(t, []byte{}, api.ErrShort)
	for n := range 13 {
		tryNeither(t, make([]byte, n), api.ErrShort)
		tryNeither(t, bytes.Repeat([]byte{0xff}, n), api.ErrShort)
		for _, b := range frames() {
			tryNeither(t, b[:n], api.ErrShort)
			tryNeither(t, b[13-n:], api.ErrShort)
		}
	}
	for n := range 11 {
		// The sum fits; so nothing but the length tells.
		tryNeither(t, withSum(laidOut(0x46, 1, 1, 1)[:n]), api.ErrShort)
		tryNeither(t, withSum(laidOut(0x53, 1, 1, 1)[:n]), api.ErrShort)
	}
}

// P3.2: too many bytes, whatever they are.
func TestReadTooManyBytes(t *testing.T) {
	for _, n := range []int{14, 15, 16, 17, 20, 24, 25, 26, 27, 39, 64, 255, 256, 256 + 13, 1 << 16, 1<<16 + 13} {
		tryNeither(t, make([]byte, n), api.ErrLong)
		tryNeither(t, bytes.Repeat([]byte{0xff}, n), api.ErrLong)
		for _, b := range frames() {
			more := bytes.Repeat(b, n/13+1)
			tryNeither(t, more[:n], api.ErrLong)
			tryNeither(t, more[len(more)-n:], api.ErrLong)
			tryNeither(t, append(bytes.Clone(b), make([]byte, n-13)...), api.ErrLong)
			tryNeither(t, withSum(more[:n-2]), api.ErrLong)
		}
	}
}

// P3.2: each other sum than the right one.
func TestReadOtherSums(t *testing.T) {
	for _, b := range frames() {
		other := bytes.Clone(b)
		for change := 1; change < 1<<16; change++ {
			other[11], other[12] = b[11]^byte(change>>8), b[12]^byte(change)
			tryNeither(t, other, api.ErrSum)
		}
		// The sum of all but the sign, and that of the frame with its sum.
		for _, part := range [][]byte{b[1:11], b} {
			s := sum.Of(part)
			tryNeither(t, append(bytes.Clone(b[:11]), byte(s>>8), byte(s)), api.ErrSum)
		}
	}
}

// P3.2: a sum that doesn't fit is told ahead of a sign and a word that are none.
func TestReadSumAheadOfForm(t *testing.T) {
	for _, sign := range []byte{0, 0x45, 0x46, 0x47, 0x52, 0x53, 0x54, 0x66, 0xff} {
		for _, word := range []int{0, 7, 8, 127, 128, 255} {
			b := laidOut(sign, 9, word, 12345)
			b[12] ^= 1
			tryNeither(t, b, api.ErrSum)
			b[11] ^= 0x80
			tryNeither(t, b, api.ErrSum)
		}
	}
	tryNeither(t, make([]byte, 13), api.ErrSum)
	tryNeither(t, bytes.Repeat([]byte{0xff}, 13), api.ErrSum)
}

// P3.2: each sign, with a sum that fits.
func TestReadOtherSigns(t *testing.T) {
	for sign := range 256 {
		for _, word := range []int{0, 5, 7, 8, 127, 128, 255} {
			b := laidOut(byte(sign), 3, word, -77)
			if sign != 0x46 {
				tryReadFeed(t, b, api.Feed{}, api.ErrForm)
			}
			if sign != 0x53 {
				tryReadSet(t, b, api.Set{}, api.ErrForm)
			}
		}
	}
}

// P3.2
func TestReadTheOtherKind(t *testing.T) {
	for _, c := range knownFeeds() {
		tryReadSet(t, c.b, api.Set{}, api.ErrForm)
	}
	for _, c := range knownSets() {
		tryReadFeed(t, c.b, api.Feed{}, api.ErrForm)
	}
}

// P3.2: each word, with a sum that fits.
func TestReadEachWord(t *testing.T) {
	for _, seq := range []int{0, 1, 128, 255} {
		for word := range 256 {
			feed, set := laidOut(0x46, seq, word, great-1), laidOut(0x53, seq, word, least+1)
			if word <= 127 {
				tryReadFeed(t, feed, api.Feed{Seq: seq, Status: word, Actual: great - 1}, api.OK)
			} else {
				tryReadFeed(t, feed, api.Feed{}, api.ErrForm)
			}
			if word <= 7 {
				tryReadSet(t, set, api.Set{Seq: seq, Control: word, Target: least + 1}, api.OK)
			} else {
				tryReadSet(t, set, api.Set{}, api.ErrForm)
			}
		}
	}
}

// P3.3
func TestWhatWasPutIsRead(t *testing.T) {
	for _, place := range places() {
		for _, seq := range []int{0, 1, 127, 128, 254, 255} {
			for word := range 128 {
				f := api.Feed{Seq: seq, Status: word, Actual: place}
				b, _ := PutFeed(f)
				tryReadFeed(t, b, f, api.OK)
			}
			for word := range 8 {
				s := api.Set{Seq: seq, Control: word, Target: place}
				b, _ := PutSet(s)
				tryReadSet(t, b, s, api.OK)
			}
		}
	}
	for seq := range 256 {
		f := api.Feed{Seq: seq, Status: seq / 2, Actual: int64(seq) - 128}
		b, _ := PutFeed(f)
		tryReadFeed(t, b, f, api.OK)
		s := api.Set{Seq: seq, Control: seq % 8, Target: int64(seq) - 128}
		b, _ = PutSet(s)
		tryReadSet(t, b, s, api.OK)
	}
}

// putFrames are some frames of both kinds, as they are put.
func putFrames() [][]byte {
	var l [][]byte
	for _, c := range knownFeeds() {
		b, _ := PutFeed(c.f)
		l = append(l, b)
	}
	for _, c := range knownSets() {
		b, _ := PutSet(c.s)
		l = append(l, b)
	}
	return l
}

// P3.3: each change of each byte; as the length stays, the sum tells.
func TestOneByteChanged(t *testing.T) {
	for _, b := range putFrames() {
		other := bytes.Clone(b)
		for at := range b {
			for change := 1; change < 1<<8; change++ {
				other[at] = b[at] ^ byte(change)
				tryNeither(t, other, api.ErrSum)
			}
			other[at] = b[at]
		}
	}
}

// P3.3: each change of two bytes side by side, also where one of them is the sum's.
func TestTwoBytesChanged(t *testing.T) {
	for _, b := range putFrames() {
		other := bytes.Clone(b)
		for at := range len(b) - 1 {
			for change := 1; change < 1<<16; change++ {
				other[at], other[at+1] = b[at]^byte(change>>8), b[at+1]^byte(change)
				tryNeither(t, other, api.ErrSum)
			}
			other[at], other[at+1] = b[at], b[at+1]
		}
	}
}

// Rule 3 of the document's 'Rules that hold everywhere': what is read stays, with what lies about it.
func TestBytesStay(t *testing.T) {
	short, long := laidOut(0x46, 1, 2, 3)[:12], append(laidOut(0x53, 1, 2, 3), 4)
	spoilt, formless := laidOut(0x53, 1, 2, 3), laidOut(0x46, 1, 200, 3)
	spoilt[5] ^= 9
	for _, b := range append(frames(), short, long, spoilt, formless) {
		room := slices.Concat([]byte{1, 2, 3}, b, bytes.Repeat([]byte{0xa5}, 20))
		before := bytes.Clone(room)
		inside := room[3 : 3+len(b)]
		ReadFeed(inside)
		ReadSet(inside)
		if !bytes.Equal(room, before) {
			t.Fatalf("reading made % x of % x", room, before)
		}
	}
}

// Rules 3 and 4: bytes that are changed behind a call, or read in between, change no later answer.
func TestBytesAreNotKept(t *testing.T) {
	a, b := knownFeeds()[0], knownSets()[4]
	room := bytes.Clone(a.b)
	f, _ := ReadFeed(room)
	copy(room, b.b)
	tryReadSet(t, room, b.s, api.OK)
	tryReadFeed(t, room, api.Feed{}, api.ErrForm)
	if f != a.f {
		t.Errorf("what was read became %v", f)
	}
	clear(room)
	tryReadFeed(t, a.b, a.f, api.OK)
	tryReadSet(t, b.b, b.s, api.OK)
}

// Rule 3: each frame is new memory, its spare room too.
func TestFramesAreNew(t *testing.T) {
	a, b := knownFeeds()[0], knownSets()[4]
	feed, _ := PutFeed(a.f)
	set, _ := PutSet(b.s)
	spoil(feed)
	if !bytes.Equal(set, b.b) {
		t.Fatalf("another frame became % x", set)
	}
	tryPutFeed(t, a.f, a.b)
	spoil(set)
	tryPutSet(t, b.s, b.b)
}

func spoil(b []byte) {
	b = b[:cap(b)]
	for i := range b {
		b[i] ^= 0xff
	}
}
