package drive

import (
	"bytes"
	"math"
	"slices"
	"testing"

	"servitor/api"
	"servitor/frame"
	"servitor/word"
)

// The states' numbers are written out here, as the document has them.
const (
	off, ready, on, op, fault = 0, 1, 2, 3, 4
)

const (
	least = math.MinInt64
	great = math.MaxInt64
)

func bothValues() []bool { return []bool{false, true} }

// far are numbers beyond every range that the chapter names; some are in it by their lowest byte or their lower half.
func far() []int {
	return []int{math.MinInt, math.MinInt + 1, math.MinInt + 5, math.MaxInt, math.MaxInt - 1, -1 << 32, 1 << 32, 1<<32 + 3, -1<<32 + 3, 1 << 31, -1 << 31, 1<<31 - 1, 1<<16 + 3, -256, -255, -253, -128, -100, -20, -2, 256, 257, 259, 300, 511, 512}
}

// places are those at both ends, about 0, about the document's bound, and some in between.
func places() []int64 {
	return []int64{0, 1, -1, 2, 255, 256, -256, 1 << 31, -1 << 31, 1 << 32, 0x0102030405060708, -0x0102030405060708, api.MaxPos, api.MaxPos + 1, -api.MaxPos, -api.MaxPos - 1, great, great - 1, least, least + 1}
}

// settled is a switch, its parts in the order of the document.
func settled(count int, value bool, other int) api.Bounce {
	return api.Bounce{Count: count, Value: value, Other: other}
}

// begun is a new drive, as the chapter tells it.
func begun(limit, count int) api.Drive {
	b := settled(count, false, 0)
	return api.Drive{State: off, Watch: api.Watch{Limit: limit, Missed: 0, Last: -1}, Plus: b, Minus: b, Home: b, Actual: 0, Known: false, Seq: 0}
}

// middle is a drive in the middle of its work, of whose parts none is as at first.
func middle() api.Drive {
	return api.Drive{
		State: op, Watch: api.Watch{Limit: 5, Missed: 2, Last: 40},
		Plus: settled(3, true, 1), Minus: settled(3, false, 2), Home: settled(3, true, 0),
		Actual: -12345, Known: true, Seq: 77,
	}
}

// rightDrives are some with their parts at their ends and between.
func rightDrives() []api.Drive {
	l := []api.Drive{middle(), begun(1, 1), begun(100, 20), begun(7, 4)}
	for _, limit := range []int{1, 2, 100} {
		for _, last := range []int{-1, 0, 128, 255} {
			for state := range 5 {
				l = append(l, api.Drive{
					State: state, Watch: api.Watch{Limit: limit, Missed: limit - state%2, Last: last},
					Plus: settled(20, state > 1, state), Minus: settled(20, false, 19), Home: settled(20, true, 0),
					Actual: int64(last) * 1000003, Known: last != 0, Seq: (last + 256) % 256,
				})
			}
		}
	}
	for _, place := range places() {
		d := middle()
		d.Actual = place
		l = append(l, d)
	}
	return l
}

// feed is the frame of what a drive tells.
func feed(t *testing.T, f api.Feed) []byte {
	t.Helper()
	b, e := frame.PutFeed(f)
	if e != api.OK {
		t.Fatalf("no frame of %v: %d", f, e)
	}
	return b
}

// P7.1: each limit with each count, about their ends and about those of a byte.
func TestNew(t *testing.T) {
	for limit := -3; limit <= 260; limit++ {
		for count := -3; count <= 260; count++ {
			d, e := New(limit, count)
			if 1 <= limit && limit <= 100 && 1 <= count && count <= 20 {
				if d != begun(limit, count) || e != api.OK || !Right(d) || Lost(d) {
					t.Fatalf("New(%d, %d): %v %d", limit, count, d, e)
				}
			} else if d != (api.Drive{}) || e != api.ErrArg {
				t.Fatalf("New(%d, %d): %v %d, not ErrArg alone", limit, count, d, e)
			}
		}
	}
}

func refuseNew(t *testing.T, limit, count int) {
	t.Helper()
	if d, e := New(limit, count); d != (api.Drive{}) || e != api.ErrArg {
		t.Errorf("New(%d, %d): %v %d, not ErrArg alone", limit, count, d, e)
	}
}

// P7.1: one of both is none, or both are.
func TestNewOfFarNumbers(t *testing.T) {
	for _, n := range append(far(), 0, -1, 255) {
		for _, right := range []int{1, 2, 10, 20} {
			refuseNew(t, n, right)
			refuseNew(t, right, n)
		}
		refuseNew(t, api.MaxWatch, n)
		for _, m := range far() {
			refuseNew(t, n, m)
		}
	}
	refuseNew(t, api.MaxWatch+1, 1)
	refuseNew(t, 1, 21)
	refuseNew(t, 21, 100)
}

// tryRight: is the drive d, of which one part was made another, right?
func tryRight(t *testing.T, change func(d *api.Drive), want bool) {
	t.Helper()
	d := middle()
	change(&d)
	if Right(d) != want {
		t.Errorf("Right(%v): %t", d, !want)
	}
}

// P7.1
func TestRightDrives(t *testing.T) {
	for _, d := range rightDrives() {
		if !Right(d) {
			t.Errorf("%v is not right", d)
		}
	}
	if Right(api.Drive{}) {
		t.Error("the zero drive is right")
	}
}

// P7.1
func TestRightState(t *testing.T) {
	for _, state := range append(far(), -4, -3, -1, 0, 1, 2, 3, 4, 5, 6, 7, 8, 15, 16, 255) {
		tryRight(t, func(d *api.Drive) { d.State = state }, 0 <= state && state <= 4)
	}
}

// P7.1
func TestRightSeq(t *testing.T) {
	for seq := -5; seq <= 1000; seq++ {
		tryRight(t, func(d *api.Drive) { d.Seq = seq }, 0 <= seq && seq <= 255)
	}
	for _, seq := range far() {
		tryRight(t, func(d *api.Drive) { d.Seq = seq }, false)
	}
}

// P7.1: each part of the watch, the limit with none missed.
func TestRightWatch(t *testing.T) {
	for _, n := range append(far(), -1, 0, 1, 4, 5, 6, 99, 100, 101, 254, 255) {
		tryRight(t, func(d *api.Drive) { d.Watch = api.Watch{Limit: n, Missed: 0, Last: 40} }, 1 <= n && n <= 100)
		tryRight(t, func(d *api.Drive) { d.Watch.Missed = n }, 0 <= n && n <= 5)
		tryRight(t, func(d *api.Drive) { d.Watch.Last = n }, -1 <= n && n <= 255)
	}
	tryRight(t, func(d *api.Drive) { d.Watch = api.Watch{} }, false)
	tryRight(t, func(d *api.Drive) { d.Watch = api.Watch{Limit: 101, Missed: 101, Last: 0} }, false)
}

// switches are the three switches of a drive.
func switches(d *api.Drive) [3]*api.Bounce {
	return [3]*api.Bounce{&d.Plus, &d.Minus, &d.Home}
}

// P7.1: each switch alone.
func TestRightSwitches(t *testing.T) {
	for at := range 3 {
		for _, value := range bothValues() {
			for other := -3; other <= 25; other++ {
				tryRight(t, func(d *api.Drive) { *switches(d)[at] = settled(3, value, other) }, 0 <= other && other <= 2)
			}
			for _, other := range far() {
				tryRight(t, func(d *api.Drive) { *switches(d)[at] = settled(3, value, other) }, false)
			}
		}
		tryRight(t, func(d *api.Drive) { *switches(d)[at] = api.Bounce{} }, false)
	}
}

// P7.1: one switch has another Count than the other two, though each is right by itself.
func TestRightCountsDiffer(t *testing.T) {
	for at := range 3 {
		for count := 1; count <= 20; count++ {
			tryRight(t, func(d *api.Drive) { *switches(d)[at] = settled(count, true, 0) }, count == 3)
		}
	}
	tryRight(t, func(d *api.Drive) {
		d.Plus, d.Minus, d.Home = settled(3, false, 0), settled(4, false, 0), settled(5, false, 0)
	}, false)
}

// P7.1: all three have the same Count.
func TestRightCount(t *testing.T) {
	for _, count := range append(far(), -1, 0, 1, 2, 3, 19, 20, 21, 22, 100, 255) {
		tryRight(t, func(d *api.Drive) {
			for _, b := range switches(d) {
				*b = settled(count, false, 0)
			}
		}, 1 <= count && count <= 20)
	}
}

// P7.1
func TestRightActual(t *testing.T) {
	for _, place := range places() {
		tryRight(t, func(d *api.Drive) { d.Actual, d.Known = place, true }, true)
		tryRight(t, func(d *api.Drive) { d.Actual, d.Known = place, false }, place == 0)
	}
}

// tryCome: in this cycle the drive d becomes want, which is right, and lost just if its watch has missed its limit.
func tryCome(t *testing.T, d api.Drive, b []byte, want api.Drive) {
	t.Helper()
	before := bytes.Clone(b)
	n := Come(d, b)
	if n != want {
		t.Fatalf("Come(%v, % x): %v, not %v", d, b, n, want)
	}
	if !bytes.Equal(b, before) {
		t.Fatalf("Come made % x of % x", b, before)
	}
	if !Right(n) || Lost(n) != (n.Watch.Missed == n.Watch.Limit) {
		t.Fatalf("%v: right %t, lost %t", n, Right(n), Lost(n))
	}
}

// P7.2: the chapter's example.
func TestExample(t *testing.T) {
	d, e := New(2, 1)
	if e != api.OK {
		t.Fatalf("New(2, 1): %d", e)
	}
	tryCome(t, d, feed(t, api.Feed{Seq: 0, Status: 7 + 16, Actual: 5}), api.Drive{
		State: op, Watch: api.Watch{Limit: 2, Missed: 0, Last: 0},
		Plus: settled(1, true, 0), Minus: settled(1, false, 0), Home: settled(1, false, 0),
		Actual: 5, Known: true, Seq: 0,
	})
}

// P7.2: cycles one behind the other, each written out, with switches that need two.
func TestCycles(t *testing.T) {
	d := begun(3, 2)
	try := func(b []byte, change func(d *api.Drive)) {
		t.Helper()
		want := d
		change(&want)
		tryCome(t, d, b, want)
		d = want
	}
	missed := func(n int) func(d *api.Drive) {
		return func(d *api.Drive) { d.Watch.Missed = n }
	}
	try(nil, missed(1))
	try(feed(t, api.Feed{Seq: 200, Status: 1 + 16, Actual: -7}), func(d *api.Drive) {
		d.State, d.Watch, d.Actual, d.Known = ready, api.Watch{Limit: 3, Missed: 0, Last: 200}, -7, true
		d.Plus.Other = 1
	})
	try([]byte{1, 2, 3}, missed(1))
	try(feed(t, api.Feed{Seq: 200, Status: 8, Actual: 99}), missed(2)) // not newer
	try(feed(t, api.Feed{Seq: 255, Status: 3 + 16 + 64, Actual: 0}), func(d *api.Drive) {
		d.State, d.Watch, d.Actual = on, api.Watch{Limit: 3, Missed: 0, Last: 255}, 0
		d.Plus, d.Home.Other = settled(2, true, 0), 1
	})
	try(feed(t, api.Feed{Seq: 0, Status: 15 + 16 + 32, Actual: great}), func(d *api.Drive) {
		d.State, d.Watch.Last, d.Actual = fault, 0, great
		d.Minus.Other, d.Home.Other = 1, 0
	})
	try(nil, missed(1))
	try([]byte{}, missed(2))
	try(bytes.Repeat([]byte{0x46}, 13), missed(3))
	try(nil, missed(3))
	try(feed(t, api.Feed{Seq: 127, Status: 32 + 64, Actual: least}), func(d *api.Drive) {
		d.State, d.Watch, d.Actual = off, api.Watch{Limit: 3, Missed: 0, Last: 127}, least
		d.Plus.Other, d.Minus, d.Home.Other = 1, settled(2, true, 0), 1
	})
	try(feed(t, api.Feed{Seq: 128, Status: 7 + 64, Actual: 1}), func(d *api.Drive) {
		d.State, d.Watch.Last, d.Actual = op, 128, 1
		d.Plus, d.Minus.Other, d.Home = settled(2, false, 0), 1, settled(2, true, 0)
	})
}

// stateByBits is the state of the lowest four bits of a status word, written out.
func stateByBits(low int) int {
	return [16]int{
		off, ready, off, on, off, ready, off, op,
		fault, fault, fault, fault, fault, fault, fault, fault,
	}[low]
}

// P7.2: each status word comes to drives of each state, with switches that need one cycle: they show what the word has.
func TestEachStatus(t *testing.T) {
	for status := range 128 {
		for state := range 5 {
			for values := range 8 {
				d := begun(4, 1)
				d.State, d.Watch, d.Seq = state, api.Watch{Limit: 4, Missed: 4, Last: 254}, 9
				d.Plus.Value, d.Minus.Value, d.Home.Value = values&1 != 0, values&2 != 0, values&4 != 0
				want := d
				want.State, want.Watch = stateByBits(status%16), api.Watch{Limit: 4, Missed: 0, Last: 1}
				want.Plus.Value, want.Minus.Value, want.Home.Value = status/16%2 == 1, status/32%2 == 1, status/64 == 1
				want.Actual, want.Known = -88, true
				tryCome(t, d, feed(t, api.Feed{Seq: 1, Status: status, Actual: -88}), want)
			}
		}
	}
}

// P7.2: what a frame tells becomes known, whatever was ahead of it.
func TestEachPlace(t *testing.T) {
	for _, d := range rightDrives() {
		seq := (d.Watch.Last + 1) % 256
		for _, place := range places() {
			n := Come(d, feed(t, api.Feed{Seq: seq, Status: 3, Actual: place}))
			if n.Actual != place || !n.Known || n.State != on || n.Seq != d.Seq || !Right(n) {
				t.Fatalf("place %d to %v: %v", place, d, n)
			}
			if n.Watch != (api.Watch{Limit: d.Watch.Limit, Missed: 0, Last: seq}) {
				t.Fatalf("place %d to %v: %v", place, d, n)
			}
		}
	}
}

// P7.2: which numbers count is the watch's; the drive goes by it.
func TestEachNumber(t *testing.T) {
	for last := -1; last <= 255; last++ {
		for seq := range 256 {
			d := middle()
			d.Watch = api.Watch{Limit: 9, Missed: 8, Last: last}
			want := d
			if ahead := (seq - last + 256) % 256; last == -1 || 1 <= ahead && ahead <= 127 {
				want.State, want.Watch, want.Actual = fault, api.Watch{Limit: 9, Missed: 0, Last: seq}, 6
				want.Plus.Other, want.Minus.Other, want.Home.Other = 2, 0, 1
			} else {
				want.Watch.Missed = 9
			}
			tryCome(t, d, feed(t, api.Feed{Seq: seq, Status: 8, Actual: 6}), want)
		}
	}
}

// P7.2: a switch changes in the cycle of the count, the other two don't.
func TestSwitchesSettle(t *testing.T) {
	for count := 1; count <= 20; count++ {
		for at, bit := range []int{16, 32, 64} {
			d := begun(10, count)
			for cycle := range 2*count + 1 {
				d = Come(d, feed(t, api.Feed{Seq: cycle, Status: bit, Actual: 1}))
				for i, b := range switches(&d) {
					if b.Value != (i == at && cycle+1 >= count) {
						t.Fatalf("count %d, bit %d, cycle %d: %v", count, bit, cycle, d)
					}
				}
			}
			for cycle := range count {
				d = Come(d, feed(t, api.Feed{Seq: 50 + cycle, Status: 112 - bit, Actual: 1}))
				for i, b := range switches(&d) {
					if b.Value != ((i == at) != (cycle+1 == count)) {
						t.Fatalf("count %d, all but bit %d, cycle %d: %v", count, bit, cycle, d)
					}
				}
			}
		}
	}
}

// P7.2: a cycle in which no frame counts is none for the switches.
func TestSwitchesWait(t *testing.T) {
	d := begun(10, 3)
	for cycle := range 3 {
		if d.Home.Value || d.Home.Other != cycle {
			t.Fatalf("ahead of cycle %d: %v", cycle, d)
		}
		b := feed(t, api.Feed{Seq: cycle, Status: 64, Actual: 1})
		d = Come(Come(Come(Come(d, b), b), nil), feed(t, api.Feed{Seq: 240, Status: 0, Actual: 1}))
	}
	if !d.Home.Value || d.Home.Other != 0 || d.Watch != (api.Watch{Limit: 10, Missed: 3, Last: 2}) {
		t.Fatalf("%v", d)
	}
}

// tryTell: the drive is told this, and nothing but its Seq changes.
func tryTell(t *testing.T, d api.Drive, want, clear bool, target int64, told api.Set) {
	t.Helper()
	n, b := Tell(d, want, clear, target)
	if s, e := frame.ReadSet(b); e != api.OK || s != told {
		t.Fatalf("Tell(%v, %t, %t, %d): %v %d, not %v", d, want, clear, target, s, e, told)
	}
	next := d
	next.Seq++
	if next.Seq == 256 {
		next.Seq = 0
	}
	if n != next || !Right(n) || Lost(n) != Lost(d) {
		t.Fatalf("Tell(%v, %t, %t, %d): %v", d, want, clear, target, n)
	}
}

// controls are what is told in each state: not wanted, and not to be cleared; not wanted, to be cleared; wanted, and not
// to be cleared; both.
func controls() [5][4]int {
	return [5][4]int{off: {0, 0, 1, 1}, ready: {0, 0, 1, 1}, on: {0, 0, 3, 3}, op: {0, 0, 3, 3}, fault: {0, 4, 0, 4}}
}

// P7.2
func TestTellInEachState(t *testing.T) {
	for state, row := range controls() {
		for at, control := range row {
			for _, place := range places() {
				for _, seq := range []int{0, 1, 127, 128, 254, 255} {
					for _, d := range []api.Drive{middle(), begun(1, 1), begun(100, 20)} {
						d.State, d.Seq = state, seq
						tryTell(t, d, at >= 2, at%2 == 1, place, api.Set{Seq: seq, Control: control, Target: place})
					}
				}
			}
		}
	}
}

// P7.2: what a drive is told hangs on no other part of it.
func TestTellEachDrive(t *testing.T) {
	all := controls()
	for _, d := range rightDrives() {
		for at, control := range all[d.State] {
			tryTell(t, d, at >= 2, at%2 == 1, -d.Actual, api.Set{Seq: d.Seq, Control: control, Target: -d.Actual})
		}
	}
}

// P7.2: some frames, written out with their sums.
func TestTellKnownFrames(t *testing.T) {
	for _, c := range []struct {
		state, seq  int
		want, clear bool
		target      int64
		b           []byte
	}{
		{off, 0, false, true, 0, []byte{0x53, 0x00, 0x00, 0x00, 0x00, 0x00, 0x00, 0x00, 0x00, 0x00, 0x00, 0xbd, 0x1d}},
		{ready, 17, true, false, 0x7edcba9876543210, []byte{0x53, 0x11, 0x01, 0x7e, 0xdc, 0xba, 0x98, 0x76, 0x54, 0x32, 0x10, 0x5f, 0xd8}},
		{op, 9, true, false, -0x0102030405060708, []byte{0x53, 0x09, 0x03, 0xfe, 0xfd, 0xfc, 0xfb, 0xfa, 0xf9, 0xf8, 0xf8, 0x94, 0xf5}},
		{fault, 1, true, true, great, []byte{0x53, 0x01, 0x04, 0x7f, 0xff, 0xff, 0xff, 0xff, 0xff, 0xff, 0xff, 0x15, 0xd7}},
	} {
		d := middle()
		d.State, d.Seq = c.state, c.seq
		if _, b := Tell(d, c.want, c.clear, c.target); !bytes.Equal(b, c.b) {
			t.Errorf("Tell(%v, %t, %t, %d): % x, not % x", d, c.want, c.clear, c.target, b, c.b)
		}
	}
}

// P7.2: Seq goes round, frame by frame.
func TestTellGoesRound(t *testing.T) {
	d := begun(3, 2)
	for cycle := range 3*256 + 5 {
		tryTell(t, d, true, false, int64(cycle), api.Set{Seq: cycle % 256, Control: 1, Target: int64(cycle)})
		d, _ = Tell(d, true, false, int64(cycle))
	}
	if d.Seq != 5 {
		t.Errorf("%v", d)
	}
}

// P7.2: Lost ahead of, at and behind the watch's limit, and no more once a frame counts.
func TestLost(t *testing.T) {
	for limit := 1; limit <= 100; limit++ {
		d, _ := New(limit, 1)
		for cycle := range limit + 3 {
			if Lost(d) != (cycle >= limit) {
				t.Fatalf("limit %d, cycle %d: %v, lost %t", limit, cycle, d, Lost(d))
			}
			d = Come(d, nil)
		}
		d = Come(d, feed(t, api.Feed{Seq: 3, Status: 0, Actual: 0}))
		if Lost(d) || d.Watch.Missed != 0 {
			t.Fatalf("limit %d: %v is lost", limit, d)
		}
	}
}

// P7.2: nothing but the watch says whether a drive is lost.
func TestLostByWatchAlone(t *testing.T) {
	for _, d := range rightDrives() {
		for missed := 0; missed <= d.Watch.Limit; missed++ {
			d.Watch.Missed = missed
			if Lost(d) != (missed == d.Watch.Limit) {
				t.Errorf("%v: lost %t", d, Lost(d))
			}
		}
	}
}

// wrongDrives have one part that is not right; most of their watches are right, and not over.
func wrongDrives() []api.Drive {
	l := []api.Drive{{}, {Watch: api.Watch{Limit: 5, Missed: 0, Last: -1}}}
	add := func(change func(d *api.Drive)) {
		d := middle()
		change(&d)
		l = append(l, d)
	}
	for _, n := range append(far(), -1) {
		add(func(d *api.Drive) { d.State = n })
		add(func(d *api.Drive) { d.Seq = n })
		add(func(d *api.Drive) { d.Watch.Missed = n })
		for at := range 3 {
			add(func(d *api.Drive) { switches(d)[at].Other = n })
			add(func(d *api.Drive) { switches(d)[at].Count = n })
		}
	}
	for at := range 3 {
		add(func(d *api.Drive) { *switches(d)[at] = api.Bounce{} })
		add(func(d *api.Drive) { *switches(d)[at] = settled(3, true, 3) })
		add(func(d *api.Drive) { *switches(d)[at] = settled(4, true, 0) })
		add(func(d *api.Drive) { *switches(d)[at] = settled(21, true, 0) })
	}
	add(func(d *api.Drive) { d.State = 5 })
	add(func(d *api.Drive) { d.Watch = api.Watch{} })
	add(func(d *api.Drive) { d.Watch.Limit = 0 })
	add(func(d *api.Drive) { d.Watch.Limit = 101 })
	add(func(d *api.Drive) { d.Watch.Missed = 6 })
	add(func(d *api.Drive) { d.Watch.Last = -2 })
	add(func(d *api.Drive) { d.Watch.Last = 256 })
	add(func(d *api.Drive) { d.Plus, d.Minus, d.Home = api.Bounce{}, api.Bounce{}, api.Bounce{} })
	for _, place := range []int64{1, -1, great, least} {
		add(func(d *api.Drive) { d.Actual, d.Known = place, false })
	}
	return l
}

// P7.2
func TestDrivesThatAreNotRight(t *testing.T) {
	next := feed(t, api.Feed{Seq: 41, Status: 7, Actual: 5})
	for _, d := range wrongDrives() {
		if Right(d) || !Lost(d) {
			t.Errorf("%v: right %t, lost %t", d, Right(d), Lost(d))
		}
		for _, b := range [][]byte{nil, {}, {9}, next, next[:12], append(bytes.Clone(next), 0)} {
			if n := Come(d, b); n != (api.Drive{}) {
				t.Errorf("Come(%v, % x): %v", d, b, n)
			}
		}
		for _, want := range bothValues() {
			for _, clear := range bothValues() {
				for _, place := range places() {
					if n, b := Tell(d, want, clear, place); n != (api.Drive{}) || len(b) != 0 {
						t.Fatalf("Tell(%v, %t, %t, %d): %v % x", d, want, clear, place, n, b)
					}
				}
			}
		}
	}
}

// P7.2: told by frames, a drive that does as it is told comes where it is wanted, as known from the frames it tells.
func TestBothWays(t *testing.T) {
	for first := range 5 {
		for _, want := range bothValues() {
			d, _ := New(2, 1)
			state := first
			for cycle := range 300 {
				d = Come(d, feed(t, api.Feed{Seq: cycle % 256, Status: word.Status(state), Actual: int64(cycle)}))
				if d.State != state || d.Actual != int64(cycle) || d.Seq != cycle%256 || Lost(d) {
					t.Fatalf("from %d, wanted %t, cycle %d: %v, not %d", first, want, cycle, d, state)
				}
				var b []byte
				d, b = Tell(d, want, true, 0)
				s, e := frame.ReadSet(b)
				if e != api.OK {
					t.Fatalf("cycle %d: % x", cycle, b)
				}
				state = word.Next(state, s.Control)
			}
			if want && state != op || !want && state != ready {
				t.Errorf("from %d, wanted %t: %d", first, want, state)
			}
		}
	}
}

// tryNothing: in this cycle nothing but the watch changes, and of that nothing but what it missed.
func tryNothing(t *testing.T, d api.Drive, b []byte) {
	t.Helper()
	want := d
	want.Watch.Missed = min(d.Watch.Missed+1, d.Watch.Limit)
	tryCome(t, d, b, want)
}

// nextFrame tells d all other than it is known; in right bytes it counts.
func nextFrame(t *testing.T, d api.Drive) []byte {
	t.Helper()
	b := feed(t, api.Feed{Seq: (d.Watch.Last + 1) % 256, Status: word.Status((d.State+1)%5) + 32, Actual: d.Actual + 1})
	if n := Come(d, b); n.State == d.State || n.Actual == d.Actual || n.Watch.Missed != 0 || n.Watch.Last == d.Watch.Last {
		t.Fatalf("%v behind % x: %v", d, b, n)
	}
	return b
}

// P7.3: each change of each byte.
func TestOneByteChanged(t *testing.T) {
	for _, d := range rightDrives() {
		b := nextFrame(t, d)
		other := bytes.Clone(b)
		for at := range b {
			for change := 1; change < 1<<8; change++ {
				other[at] = b[at] ^ byte(change)
				tryNothing(t, d, other)
			}
			other[at] = b[at]
		}
	}
}

// P7.3: each change of two bytes side by side.
func TestTwoBytesChanged(t *testing.T) {
	for _, d := range []api.Drive{middle(), begun(1, 1)} {
		b := nextFrame(t, d)
		other := bytes.Clone(b)
		for at := range len(b) - 1 {
			for change := 1; change < 1<<16; change++ {
				other[at], other[at+1] = b[at]^byte(change>>8), b[at+1]^byte(change)
				tryNothing(t, d, other)
			}
			other[at], other[at+1] = b[at], b[at+1]
		}
	}
}

// P7.3: frames that are cut at either end, and such that have something ahead of them or behind them.
func TestCutOrLonger(t *testing.T) {
	for _, d := range rightDrives() {
		b := nextFrame(t, d)
		tryNothing(t, d, nil)
		tryNothing(t, d, []byte{})
		for n := range b {
			tryNothing(t, d, b[:n])
			tryNothing(t, d, b[len(b)-n:])
		}
		for _, n := range []int{1, 2, 13, 243, 256} {
			more := make([]byte, n)
			tryNothing(t, d, append(bytes.Clone(b), more...))
			tryNothing(t, d, append(more, b...))
		}
		tryNothing(t, d, slices.Concat(b, b))
	}
}

// P7.3: frames of the other kind, the drive's own among them.
func TestOtherKind(t *testing.T) {
	for _, d := range rightDrives() {
		for seq := range 256 {
			b, e := frame.PutSet(api.Set{Seq: seq, Control: seq % 8, Target: d.Actual + 1})
			if e != api.OK {
				t.Fatal(e)
			}
			tryNothing(t, d, b)
		}
		_, b := Tell(d, true, true, d.Actual+1)
		tryNothing(t, d, b)
	}
}

// P7.3: frames whose numbers are those of earlier ones, or that of the last one.
func TestOldFrames(t *testing.T) {
	for _, d := range rightDrives() {
		if d.Watch.Last == -1 {
			continue
		}
		for back := range 129 {
			seq := (d.Watch.Last - back + 256) % 256
			tryNothing(t, d, feed(t, api.Feed{Seq: seq, Status: word.Status((d.State+1)%5) + 16, Actual: d.Actual - 1}))
		}
	}
}

// P7.3: a frame that counted comes again and again, till the drive is lost, and stays so.
func TestDoubledFrames(t *testing.T) {
	for _, d := range rightDrives() {
		b := nextFrame(t, d)
		n := Come(d, b)
		for range d.Watch.Limit + 2 {
			tryNothing(t, n, b)
			n = Come(n, b)
		}
		if !Lost(n) {
			t.Errorf("%v is not lost", n)
		}
	}
}

// P7.3: with spoilt, old and doubled frames in between, all that is known but the watch is as without them.
func TestAsWithoutThem(t *testing.T) {
	d, other := begun(9, 3), begun(9, 3)
	for cycle := range 1000 {
		f := api.Feed{Seq: cycle % 256, Status: (cycle * 37) % 128, Actual: int64(cycle)*1000003 - 77}
		b := feed(t, f)
		spoilt := bytes.Clone(b)
		spoilt[cycle%13] ^= byte(cycle%255 + 1)
		other = Come(Come(other, spoilt), b[:cycle%13])
		d, other = Come(d, b), Come(other, b)
		if other != d {
			t.Fatalf("cycle %d: %v, not %v", cycle, other, d)
		}
		other = Come(Come(other, b), feed(t, api.Feed{Seq: (f.Seq + 255) % 256, Status: 127 - f.Status, Actual: -f.Actual}))
		missed := d
		missed.Watch.Missed = 2
		if other != missed {
			t.Fatalf("cycle %d: %v, not %v", cycle, other, missed)
		}
	}
}

// Rule 3 of the document's 'Rules that hold everywhere': the bytes stay, with what lies about them.
func TestBytesStay(t *testing.T) {
	for _, d := range append(rightDrives(), wrongDrives()...) {
		for _, b := range [][]byte{{}, {7}, feed(t, api.Feed{Seq: 41, Status: 7, Actual: 5}), bytes.Repeat([]byte{0x46}, 30)} {
			room := slices.Concat([]byte{1, 2, 3}, b, bytes.Repeat([]byte{0xa5}, 20))
			before := bytes.Clone(room)
			Come(d, room[3:3+len(b)])
			if !bytes.Equal(room, before) {
				t.Fatalf("Come made % x of % x", room, before)
			}
		}
	}
}

// Rules 3 and 4: each answer is new memory, and nothing is kept from call to call.
func TestNothingIsKept(t *testing.T) {
	d := middle()
	_, first := Tell(d, true, false, 8)
	kept := bytes.Clone(first)
	_, second := Tell(d, true, false, 8)
	clear(first[:cap(first)])
	if !bytes.Equal(second, kept) {
		t.Errorf("% x, not % x", second, kept)
	}
	b := feed(t, api.Feed{Seq: 41, Status: 7, Actual: 5})
	n := Come(d, b)
	clear(b)
	tryNothing(t, n, b)
	tryCome(t, d, feed(t, api.Feed{Seq: 41, Status: 7, Actual: 5}), n)
	if d != middle() {
		t.Errorf("%v", d)
	}
}
