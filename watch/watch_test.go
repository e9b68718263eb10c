package watch

import (
	"bytes"
	"math"
	"slices"
	"testing"

	"servitor/api"
	"servitor/frame"
)

// far are numbers beyond every range that the chapter names; some are in it by their lowest byte or their lower half.
func far() []int {
	return []int{math.MinInt, math.MinInt + 1, math.MinInt + 5, math.MaxInt, math.MaxInt - 1, -1 << 32, 1 << 32, 1<<32 + 5, -1<<32 + 5, 1 << 31, -1 << 31, 1<<16 + 5, -256, -255, -251, -128, -100, -2, 256, 257, 261, 300, 511, 512}
}

// feed is the frame of what a drive tells, with this number.
func feed(t *testing.T, f api.Feed) []byte {
	t.Helper()
	b, e := frame.PutFeed(f)
	if e != api.OK {
		t.Fatalf("no frame of %v: %d", f, e)
	}
	return b
}

// told is what a drive tells in a frame of this number, other than all it tells in others.
func told(seq int) api.Feed {
	return api.Feed{Seq: seq, Status: seq % 128, Actual: int64(seq)*1000003 - 77777777}
}

// newerNumbers are those that count behind last, found by steps of one instead of a difference.
func newerNumbers(last int) map[int]bool {
	l := map[int]bool{}
	if last == -1 {
		for seq := range 256 {
			l[seq] = true
		}
		return l
	}
	seq := last
	for range 127 {
		seq++
		if seq == 256 {
			seq = 0
		}
		l[seq] = true
	}
	return l
}

// tryCome: in this cycle the watch w becomes want, and the frame tells f, or doesn't count.
func tryCome(t *testing.T, w api.Watch, b []byte, want api.Watch, f api.Feed, ok bool) {
	t.Helper()
	n, g, counts := Come(w, b)
	if n != want || g != f || counts != ok {
		t.Fatalf("Come(%v, % x): %v %v %t, not %v %v %t", w, b, n, g, counts, want, f, ok)
	}
	if over := want.Limit == 0 || want.Missed == want.Limit; Over(n) != over {
		t.Fatalf("Over(%v): %t", n, !over)
	}
}

// tryMiss: nothing counts in this cycle.
func tryMiss(t *testing.T, w api.Watch, b []byte) {
	t.Helper()
	want := w
	if w.Missed < w.Limit {
		want.Missed++
	}
	tryCome(t, w, b, want, api.Feed{}, false)
}

// P4.1
func TestNewLimits(t *testing.T) {
	for limit := 1; limit <= 100; limit++ {
		w, e := New(limit)
		if e != api.OK || w != (api.Watch{Limit: limit, Missed: 0, Last: -1}) {
			t.Errorf("New(%d): %v %d", limit, w, e)
		}
		if !Right(w) || Over(w) {
			t.Errorf("New(%d): right %t, over %t", limit, Right(w), Over(w))
		}
	}
}

// P4.1
func TestNewWrongLimits(t *testing.T) {
	for _, limit := range append(far(), 0, -1, 101, 102, 127, 128, 200, 255) {
		if w, e := New(limit); e != api.ErrArg || w != (api.Watch{}) {
			t.Errorf("New(%d): %v %d, not ErrArg alone", limit, w, e)
		}
	}
}

func tryRight(t *testing.T, w api.Watch, want bool) {
	t.Helper()
	if Right(w) != want {
		t.Errorf("Right(%v): %t", w, !want)
	}
}

// P4.1
func TestRightLimit(t *testing.T) {
	for limit := -3; limit <= 130; limit++ {
		tryRight(t, api.Watch{Limit: limit, Missed: 0, Last: -1}, 1 <= limit && limit <= 100)
		tryRight(t, api.Watch{Limit: limit, Missed: 1, Last: 255}, 1 <= limit && limit <= 100)
		tryRight(t, api.Watch{Limit: limit, Missed: limit, Last: 0}, 1 <= limit && limit <= 100)
	}
	for _, limit := range far() {
		tryRight(t, api.Watch{Limit: limit, Missed: 0, Last: -1}, false)
		tryRight(t, api.Watch{Limit: limit, Missed: limit, Last: 7}, false)
	}
	tryRight(t, api.Watch{}, false)
	tryRight(t, api.Watch{Last: -1}, false)
}

// P4.1
func TestRightMissed(t *testing.T) {
	for limit := 1; limit <= 100; limit++ {
		for missed := -3; missed <= 130; missed++ {
			for _, last := range []int{-1, 0, 255} {
				tryRight(t, api.Watch{Limit: limit, Missed: missed, Last: last}, 0 <= missed && missed <= limit)
			}
		}
		for _, missed := range far() {
			tryRight(t, api.Watch{Limit: limit, Missed: missed, Last: 3}, false)
		}
	}
}

// P4.1
func TestRightLast(t *testing.T) {
	for _, limit := range []int{1, 2, 50, 100} {
		for last := -4; last <= 260; last++ {
			tryRight(t, api.Watch{Limit: limit, Missed: 0, Last: last}, -1 <= last && last <= 255)
			tryRight(t, api.Watch{Limit: limit, Missed: limit, Last: last}, -1 <= last && last <= 255)
		}
		for _, last := range far() {
			tryRight(t, api.Watch{Limit: limit, Missed: 1, Last: last}, false)
		}
	}
}

// P4.2: the chapter's example.
func TestExample(t *testing.T) {
	w, _ := New(2)
	tryCome(t, w, nil, api.Watch{Limit: 2, Missed: 1, Last: -1}, api.Feed{}, false)
	w, _, _ = Come(w, nil)
	tryCome(t, w, nil, api.Watch{Limit: 2, Missed: 2, Last: -1}, api.Feed{}, false)
	w, _, _ = Come(w, nil)
	b := feed(t, api.Feed{Seq: 0, Status: 7, Actual: -9})
	tryCome(t, w, b, api.Watch{Limit: 2, Missed: 0, Last: 0}, api.Feed{Seq: 0, Status: 7, Actual: -9}, true)
	w, _, _ = Come(w, b)
	tryCome(t, w, b, api.Watch{Limit: 2, Missed: 1, Last: 0}, api.Feed{}, false)
}

// rightWatches are some of each limit, with Missed and Last at their ends and between.
func rightWatches() []api.Watch {
	var l []api.Watch
	for _, limit := range []int{1, 2, 3, 17, 99, 100} {
		for _, missed := range []int{0, 1, limit / 2, limit - 1, limit} {
			for _, last := range []int{-1, 0, 1, 127, 128, 254, 255} {
				l = append(l, api.Watch{Limit: limit, Missed: missed, Last: last})
			}
		}
	}
	return l
}

// spoilt answers b with one byte other than it was.
func spoilt(b []byte, at int) []byte {
	other := bytes.Clone(b)
	other[at] ^= 0x21
	return other
}

// noFrames are bytes that are no frame of what a drive tells.
func noFrames(t *testing.T) [][]byte {
	l := [][]byte{nil, {}, {0x46}, make([]byte, 13), bytes.Repeat([]byte{0xff}, 13), bytes.Repeat([]byte{0x46}, 1000)}
	for _, seq := range []int{0, 1, 2, 64, 129, 255} {
		b := feed(t, told(seq))
		for n := range b {
			l = append(l, b[:n], spoilt(b, n))
		}
		set, _ := frame.PutSet(api.Set{Seq: seq, Control: 3, Target: 8})
		l = append(l, append(bytes.Clone(b), 0), append([]byte{0}, b...), slices.Concat(b, b), set)
	}
	return append(l, wordOf128())
}

// wordOf128 would be a frame of number 1 and place 0, were its word not one too great; its sum fits.
func wordOf128() []byte {
	return []byte{0x46, 0x01, 0x80, 0, 0, 0, 0, 0, 0, 0, 0, 0xb1, 0xd9}
}

// P4.2
func TestWordAloneIsWrong(t *testing.T) {
	if _, e := frame.ReadFeed(wordOf128()); e != api.ErrForm {
		t.Fatalf("the word is not what is wrong: %d", e)
	}
	tryMiss(t, api.Watch{Limit: 3, Missed: 1, Last: 0}, wordOf128())
	tryMiss(t, api.Watch{Limit: 3, Missed: 0, Last: -1}, wordOf128())
}

// P4.2
func TestBytesThatAreNoFrame(t *testing.T) {
	for _, b := range noFrames(t) {
		for _, w := range rightWatches() {
			tryMiss(t, w, b)
		}
	}
}

// P4.2: from each Last each number.
func TestNewerNumbersCount(t *testing.T) {
	for last := -1; last <= 255; last++ {
		counts := newerNumbers(last)
		for seq := range 256 {
			f := told(seq)
			b := feed(t, f)
			for missed := range 4 {
				w := api.Watch{Limit: 3, Missed: missed, Last: last}
				if counts[seq] {
					tryCome(t, w, b, api.Watch{Limit: 3, Missed: 0, Last: seq}, f, true)
				} else {
					tryMiss(t, w, b)
				}
			}
		}
	}
}

// P4.2: the edges of what is newer, written out.
func TestEdgesOfNewer(t *testing.T) {
	for _, c := range []struct {
		last, seq int
		ok        bool
	}{
		{-1, 0, true}, {-1, 255, true}, {-1, 128, true},
		{0, 0, false}, {0, 1, true}, {0, 127, true}, {0, 128, false}, {0, 255, false},
		{1, 0, false}, {1, 128, true}, {1, 129, false},
		{127, 254, true}, {127, 255, false}, {127, 0, false},
		{128, 255, true}, {128, 0, false}, {128, 127, false}, {128, 1, false},
		{129, 0, true}, {129, 1, false},
		{254, 255, true}, {254, 0, true}, {254, 125, true}, {254, 126, false}, {254, 253, false},
		{255, 0, true}, {255, 126, true}, {255, 127, false}, {255, 254, false}, {255, 255, false},
	} {
		n, f, ok := Come(api.Watch{Limit: 9, Missed: 4, Last: c.last}, feed(t, told(c.seq)))
		if ok != c.ok || ok && (n.Last != c.seq || n.Missed != 0 || f != told(c.seq)) || !ok && (n.Last != c.last || n.Missed != 5) {
			t.Errorf("behind %d comes %d: %v %v %t", c.last, c.seq, n, f, ok)
		}
	}
}

// P4.2: what a frame tells comes as it was put, whatever it is.
func TestWhatIsTold(t *testing.T) {
	for _, w := range rightWatches() {
		seq := (w.Last + 1) % 256
		for _, status := range []int{0, 1, 8, 64, 127} {
			for _, place := range []int64{0, 1, -1, api.MaxPos, -api.MaxPos, math.MaxInt64, math.MinInt64} {
				f := api.Feed{Seq: seq, Status: status, Actual: place}
				tryCome(t, w, feed(t, f), api.Watch{Limit: w.Limit, Missed: 0, Last: seq}, f, true)
			}
		}
	}
}

// P4.2: Missed goes up by one to Limit, and stays there; the watch is over just then.
func TestMissedUpToLimit(t *testing.T) {
	old := feed(t, told(9))
	for limit := 1; limit <= 100; limit++ {
		for _, b := range [][]byte{nil, {}, {1, 2, 3}, spoilt(old, 4), old} {
			w := api.Watch{Limit: limit, Missed: 0, Last: 9}
			for cycle := 1; cycle <= limit+3; cycle++ {
				w, _, _ = Come(w, b)
				if w != (api.Watch{Limit: limit, Missed: min(cycle, limit), Last: 9}) || Over(w) != (cycle >= limit) {
					t.Fatalf("limit %d, cycle %d of % x: %v, over %t", limit, cycle, b, w, Over(w))
				}
			}
		}
	}
}

// P4.2: each Missed of each limit.
func TestOver(t *testing.T) {
	for limit := 1; limit <= 100; limit++ {
		for missed := 0; missed <= limit; missed++ {
			for _, last := range []int{-1, 0, limit, 255} {
				w := api.Watch{Limit: limit, Missed: missed, Last: last}
				if Over(w) != (missed == limit) {
					t.Errorf("Over(%v): %t", w, Over(w))
				}
			}
		}
	}
}

// wrongWatches have one part that is wrong, or more.
func wrongWatches() []api.Watch {
	l := []api.Watch{{}, {Last: -1}, {Limit: 5, Missed: 6, Last: -1}, {Limit: 100, Missed: 101, Last: 0}, {Limit: 101, Missed: 101, Last: 0}, {Limit: -5, Missed: -5, Last: 0}}
	for _, n := range append(far(), 101, -1) {
		l = append(l, api.Watch{Limit: n, Missed: 0, Last: -1}, api.Watch{Limit: n, Missed: n, Last: 0}, api.Watch{Limit: 3, Missed: n, Last: 0}, api.Watch{Limit: 100, Missed: n, Last: 255})
		l = append(l, api.Watch{Limit: n, Missed: n, Last: n})
	}
	for _, n := range far() {
		l = append(l, api.Watch{Limit: 3, Missed: 0, Last: n}, api.Watch{Limit: 3, Missed: 3, Last: n})
	}
	return append(l, api.Watch{Limit: 0, Missed: 0, Last: 4}, api.Watch{Limit: 3, Missed: 4, Last: 4})
}

// P4.2
func TestWatchesThatAreNotRight(t *testing.T) {
	for _, w := range wrongWatches() {
		tryRight(t, w, false)
		if !Over(w) {
			t.Errorf("%v is not over", w)
		}
		for _, b := range [][]byte{nil, {}, {5}, feed(t, told(0)), feed(t, told(5)), feed(t, told(128)), feed(t, told(255)), spoilt(feed(t, told(5)), 3)} {
			tryCome(t, w, b, api.Watch{}, api.Feed{}, false)
		}
	}
}

// cycle answers the bytes of a cycle in which a frame counts, or (in one way or another) none does.
func cycle(t *testing.T, w api.Watch, counts bool, way int) []byte {
	t.Helper()
	steps := []int{1, 2, 64, 126, 127}
	next := (w.Last + 1) % 256
	if w.Last >= 0 {
		next = (w.Last + steps[way%5]) % 256
	}
	switch {
	case counts:
		return feed(t, told(next))
	case way%5 == 0:
		return nil
	case way%5 == 1:
		return spoilt(feed(t, told(next)), way%13)
	case w.Last < 0:
		return feed(t, told(next))[:way%13]
	case way%5 == 2:
		return feed(t, told(w.Last))
	}
	// From 128 to 227 ahead: taken for older.
	return feed(t, told((w.Last+128+way%100)%256))
}

// noneCounted: did none of the last cycles count, as many as limit?
func noneCounted(row []bool, limit int) bool {
	return len(row) >= limit && !slices.Contains(row[len(row)-limit:], true)
}

// tryRow runs cycles that count or don't, from a watch that has missed some behind one that counted.
func tryRow(t *testing.T, start api.Watch, row []bool) {
	t.Helper()
	past := append([]bool{true}, make([]bool, start.Missed)...)
	w := start
	for at, counts := range row {
		n, _, ok := Come(w, cycle(t, w, counts, at+len(row)+start.Missed))
		past = append(past, counts)
		if ok != counts || !Right(n) || n.Limit != start.Limit {
			t.Fatalf("%v behind %v of %v: %v, counts %t", start, row[:at+1], w, n, ok)
		}
		if Over(n) != noneCounted(past, start.Limit) {
			t.Fatalf("%v behind %v: %v, over %t", start, row[:at+1], n, Over(n))
		}
		if counts && (n.Missed != 0 || Over(n)) || !counts && n.Last != w.Last {
			t.Fatalf("%v in a cycle that counts (%t): %v", w, counts, n)
		}
		w = n
	}
}

// P4.3: each row of ten cycles, for small limits, from each Missed.
func TestEachShortRow(t *testing.T) {
	for limit := 1; limit <= 4; limit++ {
		for missed := 0; missed <= limit; missed++ {
			for bits := range 1 << 10 {
				row := make([]bool, 10)
				for at := range row {
					row[at] = bits>>at&1 == 1
				}
				tryRow(t, api.Watch{Limit: limit, Missed: missed, Last: bits%257 - 1}, row)
			}
		}
	}
}

// P4.3: long rows, with gaps about as long as the limit.
func TestLongRows(t *testing.T) {
	for _, limit := range []int{1, 2, 3, 10, 50, 99, 100} {
		for _, missed := range []int{0, 1, limit - 1, limit} {
			for _, last := range []int{-1, 0, 100, 255} {
				var row []bool
				for _, gap := range []int{0, limit - 1, limit, limit + 1, 0, 0, 3*limit + 2, limit / 2, limit - 1, 1, limit + 5} {
					row = append(row, make([]bool, gap)...)
					row = append(row, true)
				}
				tryRow(t, api.Watch{Limit: limit, Missed: missed, Last: last}, append(row, make([]bool, limit+2)...))
			}
		}
	}
}

// P4.3: a watch of which nothing counted yet misses from its beginning on.
func TestNothingEverCounted(t *testing.T) {
	for _, limit := range []int{1, 2, 30, 100} {
		w, _ := New(limit)
		for at := 1; at <= 2*limit+1; at++ {
			w, _, _ = Come(w, cycle(t, w, false, at))
			if w.Last != -1 || Over(w) != (at >= limit) {
				t.Fatalf("limit %d: behind %d cycles %v, over %t", limit, at, w, Over(w))
			}
		}
	}
}

// P4.3: once one counts, nothing is left of those that were missed.
func TestAsItWasBefore(t *testing.T) {
	b, later := feed(t, told(40)), feed(t, told(41))
	for _, limit := range []int{1, 2, 7, 100} {
		for missed := 0; missed <= limit; missed++ {
			for _, last := range []int{-1, 39, 0, 200} {
				w, _, ok := Come(api.Watch{Limit: limit, Missed: missed, Last: last}, b)
				if want := (api.Watch{Limit: limit, Missed: 0, Last: 40}); !ok || w != want {
					t.Fatalf("missed %d of %d: %v, not %v", missed, limit, w, want)
				}
				tryMiss(t, w, b)
				tryCome(t, w, later, api.Watch{Limit: limit, Missed: 0, Last: 41}, told(41), true)
			}
		}
	}
}

// Rule 3 of the document's 'Rules that hold everywhere': the bytes stay, with what lies about them.
func TestBytesStay(t *testing.T) {
	for _, b := range append(noFrames(t), feed(t, told(1)), feed(t, told(200))) {
		room := slices.Concat([]byte{1, 2, 3}, b, bytes.Repeat([]byte{0xa5}, 20))
		before := bytes.Clone(room)
		for _, w := range rightWatches() {
			Come(w, room[3:3+len(b)])
		}
		Come(api.Watch{}, room[3:3+len(b)])
		if !bytes.Equal(room, before) {
			t.Fatalf("Come made % x of % x", room, before)
		}
	}
}

// Rules 3 and 4: nothing is kept of bytes, nor of other watches, from call to call.
func TestNothingIsKept(t *testing.T) {
	w := api.Watch{Limit: 4, Missed: 2, Last: 6}
	room := feed(t, told(7))
	n, f, ok := Come(w, room)
	clear(room)
	other, _, _ := Come(n, room)
	if !ok || n != (api.Watch{Limit: 4, Missed: 0, Last: 7}) || f != told(7) || other.Missed != 1 {
		t.Fatalf("%v %v %t, then %v", n, f, ok, other)
	}
	tryCome(t, w, feed(t, told(7)), n, told(7), true)
	tryMiss(t, w, room)
}
