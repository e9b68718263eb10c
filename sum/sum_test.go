package sum

import (
	"bytes"
	"testing"
)

// edges are registers at which a step changes: the beginning, no bit, single bits, the turn itself.
var edges = []uint16{0xffff, 0x0000, 0x0001, 0x8000, 0x7fff, 0xfffe, 0x1021, 0x8810, 0x00ff, 0xff00, 0x5555, 0xaaaa}

// bitByBit is the register as the chapter tells it: 16 single bits, the highest first.
type bitByBit [16]bool

func registerOf(s uint16) bitByBit {
	var r bitByBit
	for i := range r {
		r[i] = s>>(15-i)&1 == 1
	}
	return r
}

func (r bitByBit) number() uint16 {
	n := uint16(0)
	for _, one := range r {
		n *= 2
		if one {
			n++
		}
	}
	return n
}

// step takes one bit in: 1021 has ones at the places 12, 5 and 0, counted from below.
func (r bitByBit) step(bit bool) bitByBit {
	unlike := r[0] != bit
	var next bitByBit
	copy(next[:], r[1:])
	if unlike {
		for _, place := range []int{12, 5, 0} {
			next[15-place] = !next[15-place]
		}
	}
	return next
}

// told is the register behind b, held as the chapter describes it.
func told(s uint16, b []byte) uint16 {
	r := registerOf(s)
	for _, c := range b {
		for place := 7; place >= 0; place-- {
			r = r.step(c>>place&1 == 1)
		}
	}
	return r.number()
}

// mixed are n bytes without an order that is easily seen.
func mixed(n int) []byte {
	b := make([]byte, n)
	x := uint32(n) + 1
	for i := range b {
		x = x*1664525 + 1013904223
		b[i] = byte(x >> 24)
	}
	return b
}

func allBytes() []byte {
	b := make([]byte, 256)
	for i := range b {
		b[i] = byte(i)
	}
	return b
}

// tryAll holds b's sum, and the register behind b from each edge, against what the chapter describes.
func tryAll(t *testing.T, b []byte) {
	t.Helper()
	if n, want := Of(b), told(0xffff, b); n != want {
		t.Errorf("Of %d bytes, %x..: %04x, not %04x", len(b), b[:min(len(b), 8)], n, want)
	}
	for _, s := range edges {
		if n, want := Go(s, b), told(s, b); n != want {
			t.Errorf("Go(%04x) with %d bytes, %x..: %04x, not %04x", s, len(b), b[:min(len(b), 8)], n, want)
		}
	}
}

// P2.1
func TestOfKnownTexts(t *testing.T) {
	for _, c := range []struct {
		text string
		sum  uint16
	}{
		{"123456789", 0x29b1},
		{"", 0xffff},
		{"A", 0xb915},
		{"\x00", 0xe1f0},
		{"\xff", 0xff00},
		{"\xff\xff", 0x0000},
		{"\x00\x00", 0x1d0f},
	} {
		if n := Of([]byte(c.text)); n != c.sum {
			t.Errorf("Of(%q): %04x, not %04x", c.text, n, c.sum)
		}
	}
}

// P2.1
func TestNoBytesLeaveTheRegister(t *testing.T) {
	for _, none := range [][]byte{nil, {}, mixed(5)[5:]} {
		if n := Of(none); n != 0xffff {
			t.Errorf("Of(%#v): %04x, not ffff", none, n)
		}
		for s := range 1 << 16 {
			if n := Go(uint16(s), none); n != uint16(s) {
				t.Fatalf("Go(%04x, %#v): %04x", s, none, n)
			}
		}
	}
}

// P2.1
func TestOneByteOfEachValue(t *testing.T) {
	for _, c := range allBytes() {
		tryAll(t, []byte{c})
	}
}

// P2.1
func TestEachRegister(t *testing.T) {
	for s := range 1 << 16 {
		for _, c := range []byte{0x00, 0x01, 0x80, 0xff, byte(s), byte(s >> 8)} {
			one := []byte{c}
			if n, want := Go(uint16(s), one), told(uint16(s), one); n != want {
				t.Fatalf("Go(%04x, %02x): %04x, not %04x", s, c, n, want)
			}
		}
	}
}

// P2.1
func TestTextsOfManyLengths(t *testing.T) {
	for n := range 300 {
		tryAll(t, mixed(n))
	}
}

// P2.1
func TestLongTexts(t *testing.T) {
	long := [][]byte{
		allBytes(),
		make([]byte, 1<<16),
		bytes.Repeat([]byte{0xff}, 1<<16+1),
		bytes.Repeat([]byte("123456789"), 10000),
		mixed(1<<18 + 3),
	}
	for _, b := range long {
		tryAll(t, b)
	}
}

// P2.1
func TestCutAtEachPlace(t *testing.T) {
	for _, b := range [][]byte{{}, {7}, []byte("123456789"), allBytes(), mixed(200)} {
		whole := told(0xffff, b)
		for cut := range len(b) + 1 {
			if n := Go(Of(b[:cut]), b[cut:]); n != whole {
				t.Errorf("%d bytes cut at %d: %04x, not %04x", len(b), cut, n, whole)
			}
			for _, s := range edges {
				if n, want := Go(Go(s, b[:cut]), b[cut:]), told(s, b); n != want {
					t.Errorf("%d bytes from %04x cut at %d: %04x, not %04x", len(b), s, cut, n, want)
				}
			}
		}
	}
}

// places are where two bytes side by side are changed in a text of n bytes: first, in the middle, last.
func places(n int) []int {
	return []int{0, (n - 2) / 2, n - 2}
}

func texts() [][]byte {
	return [][]byte{{0, 0}, {0xff, 0xff}, []byte("123"), []byte("123456789"), make([]byte, 40), mixed(65)}
}

// P2.2: all changes of two bytes side by side, changes of only one of them among them.
func TestTwoBytesChanged(t *testing.T) {
	for i, b := range texts() {
		was := Of(b)
		for _, place := range places(len(b)) {
			other := bytes.Clone(b)
			for change := 1; change < 1<<16; change++ {
				other[place] = b[place] ^ byte(change>>8)
				other[place+1] = b[place+1] ^ byte(change)
				if Of(other) == was {
					t.Fatalf("text %d, place %d, change %04x: the sum stays %04x", i, place, change, was)
				}
			}
		}
	}
}

// P2.2
func TestOneByteChanged(t *testing.T) {
	for i, b := range append(texts(), []byte{9}, mixed(301)) {
		was := Of(b)
		other := bytes.Clone(b)
		for place := range b {
			for change := 1; change < 1<<8; change++ {
				other[place] = b[place] ^ byte(change)
				if Of(other) == was {
					t.Fatalf("text %d, place %d, change %02x: the sum stays %04x", i, place, change, was)
				}
			}
			other[place] = b[place]
		}
	}
}

// P2.2: also where two bytes change places.
func TestTwoBytesSwapped(t *testing.T) {
	b := mixed(400)
	was := Of(b)
	for place := range len(b) - 1 {
		if b[place] == b[place+1] {
			continue
		}
		other := bytes.Clone(b)
		other[place], other[place+1] = b[place+1], b[place]
		if Of(other) == was {
			t.Errorf("swapped at %d: the sum stays %04x", place, was)
		}
	}
}

// Rule 3 of the document's 'Rules that hold everywhere'.
func TestBytesStayAndAreNotKept(t *testing.T) {
	room := mixed(64)
	before := bytes.Clone(room)
	b := room[8:40]
	first := Of(b)
	behind := Go(0x1234, b)
	if !bytes.Equal(room, before) {
		t.Fatal("the bytes or their spare room were changed")
	}
	for i := range room {
		room[i] = 0
	}
	Of(room)
	Go(0x4321, room)
	copy(room, before)
	if n := Of(b); n != first {
		t.Errorf("Of: %04x at first, then %04x", first, n)
	}
	if n := Go(0x1234, b); n != behind {
		t.Errorf("Go: %04x at first, then %04x", behind, n)
	}
}
