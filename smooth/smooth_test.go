package smooth

import (
	"math"
	"slices"
	"testing"

	"servitor/api"
)

// The chapter's limits, written out: a change of what counts as right must not go by unseen.
const (
	mostPlaces = 16
	endPlace   = 2199023255552
)

// window of these places, the newest one first.
func window(places ...int64) api.Smooth { return api.Smooth{Last: places} }

// filled are m places that are all one.
func filled(m int, pos int64) []int64 {
	places := []int64{}
	for range m {
		places = append(places, pos)
	}
	return places
}

// counted are m places that are all different: from, from + 1 and so on.
func counted(m int, from int64) []int64 {
	places := []int64{}
	for i := range m {
		places = append(places, from+int64(i))
	}
	return places
}

// with is a copy of places of which the one at i is another.
func with(places []int64, i int, pos int64) []int64 {
	changed := slices.Clone(places)
	changed[i] = pos
	return changed
}

// same: do two windows have the same places?
func same(a, b api.Smooth) bool { return slices.Equal(a.Last, b.Last) }

// places are some that a window may have, those at both ends among them.
func places() []int64 {
	return []int64{-endPlace, -endPlace + 1, -endPlace / 2, -1 << 32, -1000, -18, -1, 0, 1, 17, 1000, 1 << 32, endPlace / 2, endPlace - 1, endPlace}
}

// noPlaces are numbers that no window may have; some are places by their lower bits.
func noPlaces() []int64 {
	return []int64{math.MinInt64, math.MinInt64 + 1, math.MinInt64 + 17, -1 << 62, 17 - 1<<62, -1 << 50, -2 * endPlace, -endPlace - 2, -endPlace - 1, endPlace + 1, endPlace + 2, 2 * endPlace, 1 << 50, 1 << 62, 1<<62 + 17, math.MaxInt64 - 17, math.MaxInt64 - 1, math.MaxInt64}
}

// farLengths are numbers that are no length of a window; some are one by their lower bits.
func farLengths() []int {
	return []int{math.MinInt, math.MinInt + 1, math.MinInt + 5, -1 << 32, 5 - 1<<32, -256, -16, -15, -2, -1, 0, 17, 18, 31, 32, 33, 255, 256, 257, 261, 1 << 16, 1 << 31, 1 << 32, 1<<32 + 5, math.MaxInt - 1, math.MaxInt}
}

// wrongWindows are some that are not right.
func wrongWindows() []api.Smooth {
	wrong := []api.Smooth{{}, window(), window(filled(17, 0)...), window(filled(17, 5)...), window(counted(18, -3)...), window(filled(32, endPlace)...), window(filled(256, 1)...), window(filled(257, 1)...)}
	for _, m := range []int{1, 2, 3, 15, 16} {
		for _, i := range []int{0, m / 2, m - 1} {
			for _, n := range noPlaces() {
				wrong = append(wrong, window(with(filled(m, 17), i, n)...), window(with(counted(m, -2), i, n)...))
			}
		}
	}
	for _, n := range noPlaces() {
		wrong = append(wrong, window(filled(2, n)...), window(filled(16, n)...))
	}
	return append(wrong, window(math.MaxInt64, math.MinInt64), window(endPlace+1, -endPlace-1), window(1<<62, 1<<62, 1<<62, 1<<62))
}

// P10.1, P10.2: the chapter's example.
func TestExample(t *testing.T) {
	s, e := New(2, 5)
	if e != api.OK || Out(s) != 10 {
		t.Fatalf("New(2, 5): %v %d", s, e)
	}
	s = Push(s, 7)
	if Out(s) != 12 {
		t.Errorf("behind one 7: %d", Out(s))
	}
	s = Push(s, 7)
	if Out(s) != 14 {
		t.Errorf("behind two: %d", Out(s))
	}
}

// P10.1
func TestNew(t *testing.T) {
	for m := 1; m <= mostPlaces; m++ {
		for _, pos := range places() {
			s, e := New(m, pos)
			if e != api.OK || !same(s, window(filled(m, pos)...)) {
				t.Errorf("New(%d, %d): %v %d", m, pos, s, e)
			}
			if !Right(s) {
				t.Errorf("New(%d, %d): %v is not right", m, pos, s)
			}
		}
	}
}

// P10.1: some windows, written out.
func TestSomeNew(t *testing.T) {
	for _, c := range []struct {
		m    int
		pos  int64
		want []int64
	}{
		{1, 0, []int64{0}},
		{1, endPlace, []int64{2199023255552}},
		{2, -7, []int64{-7, -7}},
		{3, -endPlace, []int64{-2199023255552, -2199023255552, -2199023255552}},
		{15, 4, []int64{4, 4, 4, 4, 4, 4, 4, 4, 4, 4, 4, 4, 4, 4, 4}},
		{16, 9, []int64{9, 9, 9, 9, 9, 9, 9, 9, 9, 9, 9, 9, 9, 9, 9, 9}},
	} {
		if s, e := New(c.m, c.pos); e != api.OK || !slices.Equal(s.Last, c.want) {
			t.Errorf("New(%d, %d): %v %d", c.m, c.pos, s, e)
		}
	}
}

// tryNoWindow asks for ErrArg alone.
func tryNoWindow(t *testing.T, m int, pos int64) {
	t.Helper()
	if s, e := New(m, pos); e != api.ErrArg || len(s.Last) != 0 {
		t.Errorf("New(%d, %d): %v %d, not ErrArg alone", m, pos, s, e)
	}
}

// P10.1
func TestNewWrong(t *testing.T) {
	for _, m := range farLengths() {
		for _, pos := range append(places(), noPlaces()...) {
			tryNoWindow(t, m, pos)
		}
	}
	for m := 1; m <= mostPlaces; m++ {
		for _, pos := range noPlaces() {
			tryNoWindow(t, m, pos)
		}
	}
}

// P10.1: each window is new memory.
func TestNewTwice(t *testing.T) {
	a, _ := New(3, 8)
	b, _ := New(3, 8)
	a.Last[1] = 99
	if c, _ := New(3, 8); !same(b, window(8, 8, 8)) || !same(c, window(8, 8, 8)) {
		t.Errorf("%v %v", b, c)
	}
}

// P10.1
func TestRight(t *testing.T) {
	for m := 1; m <= mostPlaces; m++ {
		for _, pos := range places() {
			for i := range m {
				if s := window(with(filled(m, pos), i, -3)...); !Right(s) {
					t.Errorf("%v is not right", s)
				}
				if s := window(with(counted(m, -2), i, pos)...); !Right(s) {
					t.Errorf("%v is not right", s)
				}
			}
		}
	}
}

// P10.1: how many places it has.
func TestRightLengths(t *testing.T) {
	for m := range 300 {
		for _, pos := range places() {
			if s := window(filled(m, pos)...); Right(s) != (1 <= m && m <= 16) {
				t.Errorf("Right of %d places %d: %t", m, pos, Right(s))
			}
		}
	}
	if Right(api.Smooth{}) {
		t.Errorf("none is right")
	}
}

// P10.1: one place beyond, wherever it is.
func TestOnePlaceBeyond(t *testing.T) {
	for m := 1; m <= mostPlaces; m++ {
		for i := range m {
			for _, n := range noPlaces() {
				for _, pos := range []int64{0, -4, endPlace, -endPlace} {
					if s := window(with(filled(m, pos), i, n)...); Right(s) {
						t.Errorf("%v is right", s)
					}
				}
			}
		}
	}
}

// P10.1: the ends, written out.
func TestRightEnds(t *testing.T) {
	for _, c := range []struct {
		s    api.Smooth
		want bool
	}{
		{window(2199023255552), true},
		{window(-2199023255552), true},
		{window(2199023255553), false},
		{window(-2199023255553), false},
		{window(2199023255552, -2199023255552), true},
		{window(2199023255553, -2199023255552), false},
		{window(2199023255552, -2199023255553), false},
		{window(1, 2, 3, 4, 5, 6, 7, 8, 9, 10, 11, 12, 13, 14, 15, 16), true},
		{window(1, 2, 3, 4, 5, 6, 7, 8, 9, 10, 11, 12, 13, 14, 15, 16, 17), false},
		{window(), false},
	} {
		if Right(c.s) != c.want {
			t.Errorf("Right(%v): %t", c.s, !c.want)
		}
	}
}

// P10.2: as many places as thrice the window's are pushed; each goes through it, and out of it, in order.
func TestPush(t *testing.T) {
	for m := 1; m <= mostPlaces; m++ {
		s := window(counted(m, 100)...)
		told := slices.Clone(s.Last)
		for i := range 3*m + 2 {
			pos := int64(7*i - 50)
			told = append([]int64{pos}, told...)
			s = Push(s, pos)
			if !slices.Equal(s.Last, told[:m]) {
				t.Fatalf("%d places, behind %d: %v, not %v", m, i+1, s.Last, told[:m])
			}
		}
	}
}

// P10.2: some pushes, written out.
func TestSomePushes(t *testing.T) {
	for _, c := range []struct {
		s    api.Smooth
		pos  int64
		want []int64
	}{
		{window(4), 9, []int64{9}},
		{window(4), 4, []int64{4}},
		{window(4, 5), 9, []int64{9, 4}},
		{window(1, 2, 3), -8, []int64{-8, 1, 2}},
		{window(1, 1, 3), 1, []int64{1, 1, 1}},
		{window(1, 2, 3, 4, 5), endPlace, []int64{endPlace, 1, 2, 3, 4}},
		{window(-endPlace, endPlace), -endPlace, []int64{-endPlace, -endPlace}},
		{window(1, 2, 3, 4, 5, 6, 7, 8, 9, 10, 11, 12, 13, 14, 15, 16), 0, []int64{0, 1, 2, 3, 4, 5, 6, 7, 8, 9, 10, 11, 12, 13, 14, 15}},
	} {
		if s := Push(c.s, c.pos); !slices.Equal(s.Last, c.want) {
			t.Errorf("Push(%v, %d): %v, not %v", c.s, c.pos, s, c.want)
		}
	}
}

// P10.2: each place that may be, and each that may not.
func TestPushEnds(t *testing.T) {
	for m := 1; m <= mostPlaces; m++ {
		was := window(counted(m, -5)...)
		for _, pos := range places() {
			if s := Push(was, pos); s.Last[0] != pos || !slices.Equal(s.Last[1:], was.Last[:m-1]) {
				t.Errorf("Push(%v, %d): %v", was, pos, s)
			}
		}
		for _, n := range noPlaces() {
			if s := Push(was, n); !same(s, was) {
				t.Errorf("Push(%v, %d): %v", was, n, s)
			}
		}
	}
}

// P10.2
func TestOut(t *testing.T) {
	for _, c := range []struct {
		s    api.Smooth
		want int64
	}{
		{window(0), 0},
		{window(7), 7},
		{window(-7), -7},
		{window(endPlace), 2199023255552},
		{window(-endPlace), -2199023255552},
		{window(7, 5), 12},
		{window(3, -5), -2},
		{window(endPlace, -endPlace), 0},
		{window(endPlace, 1-endPlace, endPlace), 2199023255553},
		{window(1, 20, 300, 4000), 4321},
		{window(4000, 300, 20, 1), 4321},
		{window(1, 2, 3, 4, 5, 6, 7, 8, 9, 10, 11, 12, 13, 14, 15), 120},
		{window(1, 2, 3, 4, 5, 6, 7, 8, 9, 10, 11, 12, 13, 14, 15, 16), 136},
		{window(filled(15, endPlace)...), 32985348833280},
		{window(filled(16, endPlace)...), 35184372088832},
		{window(filled(16, -endPlace)...), -35184372088832},
		{window(with(filled(16, endPlace), 9, -endPlace)...), 30786325577728},
	} {
		if n := Out(c.s); n != c.want {
			t.Errorf("Out(%v): %d, not %d", c.s, n, c.want)
		}
	}
}

// P10.2: each place counts once, wherever it is.
func TestOutEachPlace(t *testing.T) {
	for m := 1; m <= mostPlaces; m++ {
		for _, pos := range places() {
			if n := Out(window(filled(m, pos)...)); n != int64(m)*pos {
				t.Errorf("Out of %d places %d: %d", m, pos, n)
			}
			for i := range m {
				if n := Out(window(with(filled(m, 3), i, pos)...)); n != int64(3*m-3)+pos {
					t.Errorf("Out of %d places 3, but %d at %d: %d", m, pos, i, n)
				}
			}
		}
	}
}

// P10.2
func TestRest(t *testing.T) {
	for m := 1; m <= mostPlaces; m++ {
		for _, pos := range places() {
			if !Rest(window(filled(m, pos)...)) {
				t.Errorf("%d places %d don't rest", m, pos)
			}
			for i := range m {
				for _, other := range places() {
					s := window(with(filled(m, pos), i, other)...)
					if Rest(s) != (m == 1 || other == pos) {
						t.Errorf("Rest(%v): %t", s, Rest(s))
					}
				}
			}
		}
	}
}

// P10.2: some windows, written out; in some the first and the last place are one, or the sum is as if all were.
func TestSomeRests(t *testing.T) {
	for _, c := range []struct {
		s    api.Smooth
		want bool
	}{
		{window(0), true},
		{window(endPlace), true},
		{window(5, 5), true},
		{window(5, 6), false},
		{window(-5, 5), false},
		{window(5, 6, 5), false},
		{window(5, 4, 6, 5), false},
		{window(4, 5, 6), false},
		{window(5, 5, 6), false},
		{window(6, 5, 5), false},
		{window(1, 2, 1, 2), false},
		{window(-endPlace, -endPlace, -endPlace), true},
		{window(-endPlace, endPlace, -endPlace), false},
	} {
		if Rest(c.s) != c.want {
			t.Errorf("Rest(%v): %t", c.s, !c.want)
		}
	}
}

// shifted is the chapter's word for Shift; moves beyond four times MaxPos lead from no place to another one.
func shifted(s api.Smooth, by int64) []int64 {
	if by < -2*endPlace || by > 2*endPlace {
		return s.Last
	}
	moved := []int64{}
	for _, pos := range s.Last {
		if pos+by < -endPlace || pos+by > endPlace {
			return s.Last
		}
		moved = append(moved, pos+by)
	}
	return moved
}

// moves are numbers to shift by, both ends and what lies just at and beside the ways between ends among them.
func moves() []int64 {
	by := append(places(), noPlaces()...)
	for _, n := range []int64{endPlace - 17, endPlace - 5, endPlace + 5, endPlace + 17, 2 * endPlace, math.MaxInt64 - endPlace} {
		by = append(by, n-1, n, n+1, -n-1, -n, 1-n)
	}
	return by
}

// P10.2
func TestShift(t *testing.T) {
	for m := 1; m <= mostPlaces; m++ {
		for _, s := range []api.Smooth{
			window(filled(m, 0)...), window(filled(m, 17)...), window(filled(m, endPlace)...), window(filled(m, -endPlace)...),
			window(counted(m, -5)...), window(with(filled(m, 0), m-1, endPlace-17)...), window(with(filled(m, 0), m/2, 17-endPlace)...),
			window(with(filled(m, endPlace), m/2, -endPlace)...), window(counted(m, endPlace-16)...), window(counted(m, -endPlace)...),
		} {
			for _, by := range moves() {
				if x := Shift(s, by); !slices.Equal(x.Last, shifted(s, by)) {
					t.Errorf("Shift(%v, %d): %v", s, by, x)
				}
			}
		}
	}
}

// P10.2: some moves, written out.
func TestSomeShifts(t *testing.T) {
	for _, c := range []struct {
		s    api.Smooth
		by   int64
		want []int64
	}{
		{window(5), 3, []int64{8}},
		{window(5), -8, []int64{-3}},
		{window(18, 12, 6), -18, []int64{0, -6, -12}},
		{window(18, 12, 6), 0, []int64{18, 12, 6}},
		{window(1, 2, 3), 4, []int64{5, 6, 7}},
		{window(0), 2199023255552, []int64{2199023255552}},
		{window(0), 2199023255553, []int64{0}},
		{window(0), -2199023255552, []int64{-2199023255552}},
		{window(0), -2199023255553, []int64{0}},
		{window(-endPlace, -endPlace), 4398046511104, []int64{2199023255552, 2199023255552}},
		{window(-endPlace, -endPlace), 4398046511105, []int64{-endPlace, -endPlace}},
		{window(endPlace, endPlace), -4398046511104, []int64{-2199023255552, -2199023255552}},
		{window(endPlace, endPlace), -4398046511105, []int64{endPlace, endPlace}},
		{window(endPlace, -endPlace), 1, []int64{endPlace, -endPlace}},
		{window(endPlace, -endPlace), -1, []int64{endPlace, -endPlace}},
		{window(endPlace, -endPlace), 0, []int64{endPlace, -endPlace}},
		{window(1, 2, 3), math.MaxInt64, []int64{1, 2, 3}},
		{window(1, 2, 3), math.MinInt64, []int64{1, 2, 3}},
		{window(-1, -2, -3), math.MaxInt64, []int64{-1, -2, -3}},
		{window(-1, -2, -3), math.MinInt64, []int64{-1, -2, -3}},
		{window(endPlace), math.MaxInt64, []int64{endPlace}},
		{window(-endPlace), math.MinInt64, []int64{-endPlace}},
	} {
		if s := Shift(c.s, c.by); !slices.Equal(s.Last, c.want) {
			t.Errorf("Shift(%v, %d): %v, not %v", c.s, c.by, s, c.want)
		}
	}
}

// P10.2: the one place that says how far all may be moved up, or down, wherever it is: just to a bound, and one beyond it.
func TestShiftToTheBounds(t *testing.T) {
	for m := 2; m <= mostPlaces; m++ {
		for i := range m {
			top, low := with(counted(m, -8), i, 100), with(counted(m, -8), i, -100)
			for _, c := range []struct {
				places  []int64
				by, one int64
			}{{top, endPlace - 100, 1}, {low, 100 - endPlace, -1}} {
				s := window(c.places...)
				x := Shift(s, c.by)
				for k, pos := range x.Last {
					if pos != c.places[k]+c.by {
						t.Errorf("Shift(%v, %d): %v", s, c.by, x)
					}
				}
				if x := Shift(s, c.by+c.one); !slices.Equal(x.Last, c.places) {
					t.Errorf("Shift(%v, %d): %v", s, c.by+c.one, x)
				}
			}
		}
	}
}

// P10.2
func TestWindowsThatAreNotRight(t *testing.T) {
	for _, s := range wrongWindows() {
		was := slices.Clone(s.Last)
		if Right(s) {
			t.Errorf("%v is right", s)
		}
		if n := Out(s); n != 0 {
			t.Errorf("Out(%v): %d", s, n)
		}
		if Rest(s) {
			t.Errorf("%v rests", s)
		}
		for _, n := range append(places(), noPlaces()...) {
			if x := Push(s, n); !slices.Equal(x.Last, was) {
				t.Errorf("Push(%v, %d): %v", s, n, x)
			}
			if x := Shift(s, n); !slices.Equal(x.Last, was) {
				t.Errorf("Shift(%v, %d): %v", s, n, x)
			}
		}
	}
}

// someWindows are right ones and others, by how many places they have.
func someWindows() []api.Smooth {
	s := []api.Smooth{window(), window(counted(17, 3)...), window(4, endPlace+1, 5), window(1<<50, 1<<50)}
	for m := 1; m <= mostPlaces; m++ {
		s = append(s, window(counted(m, 40)...), window(filled(m, -9)...))
	}
	return s
}

// inRoom is a window with the places of another one that lies within more memory, all of which comes back beside it.
func inRoom(s api.Smooth) (api.Smooth, []int64) {
	room := append(append([]int64{-77}, s.Last...), filled(20, -88)...)
	return window(room[1 : 1+len(s.Last)]...), room
}

// tryApart asks that a call leaves the window and the room behind it as they are, and answers memory of its own.
func tryApart(t *testing.T, s api.Smooth, call func(s api.Smooth) api.Smooth) {
	t.Helper()
	given, room := inRoom(s)
	was := slices.Clone(room)
	answer := call(given)
	if !slices.Equal(room, was) {
		t.Errorf("%v became %v", was, room)
	}
	told := slices.Clone(answer.Last)
	for i := range room {
		room[i] = 12345
	}
	if !slices.Equal(answer.Last, told) {
		t.Errorf("%v became %v behind the window %v", told, answer.Last, s)
	}
	copy(room, was)
	free := answer.Last[:cap(answer.Last)]
	for i := range free {
		free[i] = 54321
	}
	if !slices.Equal(room, was) {
		t.Errorf("%v became %v behind the answer %v", was, room, told)
	}
}

// P10.2: what is handed in is as it was, and the answer is new memory, also where the window stays as it is.
func TestApart(t *testing.T) {
	for _, s := range someWindows() {
		for _, n := range []int64{0, 6, 40, -9, endPlace, endPlace + 1, math.MaxInt64, math.MinInt64} {
			tryApart(t, s, func(s api.Smooth) api.Smooth { return Push(s, n) })
			tryApart(t, s, func(s api.Smooth) api.Smooth { return Shift(s, n) })
		}
		tryApart(t, s, func(s api.Smooth) api.Smooth { Right(s); return api.Smooth{} })
		tryApart(t, s, func(s api.Smooth) api.Smooth { Out(s); return api.Smooth{} })
		tryApart(t, s, func(s api.Smooth) api.Smooth { Rest(s); return api.Smooth{} })
	}
}

// P10.2: a window from which two others are made keeps to itself, and so do they.
func TestTwoOfOne(t *testing.T) {
	s := window(1, 2, 3)
	up, down, moved := Push(s, 10), Push(s, -10), Shift(s, 100)
	if !same(s, window(1, 2, 3)) || !same(up, window(10, 1, 2)) || !same(down, window(-10, 1, 2)) || !same(moved, window(101, 102, 103)) {
		t.Errorf("%v %v %v %v", s, up, down, moved)
	}
}

// size of a number, without its sign.
func size(n int64) int64 {
	if n < 0 {
		return -n
	}
	return n
}

// seen is what is known of a setpoint, cycle by cycle: itself, its change, and the change of that.
type seen struct{ out, change, more int64 }

// behind is what is seen a cycle later.
func (k seen) behind(out int64) seen {
	change := out - k.out
	return seen{out, change, change - k.change}
}

// tryRow pushes a row of places, which are unlike one another by at most v, and these differences by at most a, into a window that rests where the row begins.
func tryRow(t *testing.T, m int, from int64, row []int64, v, a int64) {
	t.Helper()
	s, e := New(m, from)
	if e != api.OK {
		t.Fatalf("New(%d, %d): %d", m, from, e)
	}
	told, n := filled(m, from), int64(m)
	was := seen{out: n * from}
	for i, pos := range row {
		s, told = Push(s, pos), append(told, pos)
		now, last := was.behind(Out(s)), told[len(told)-m:]
		if size(now.change) > n*v || size(now.more) > n*a || size(now.more-was.more) > 2*a {
			t.Fatalf("%d places, %d, row %v, at %d: %v behind %v; v %d, a %d", m, from, row, i, now, was, v, a)
		}
		low, top := slices.Min(last), slices.Max(last)
		if now.out < n*low || now.out > n*top || low == top && (now.out != n*pos || !Rest(s)) {
			t.Fatalf("%d places, %d, row %v, at %d: %d beside %d to %d", m, from, row, i, now.out, low, top)
		}
		was = now
	}
}

// steps of a row from a place: the greatest, and the greatest change of one behind the other, from rest on.
func steps(from int64, row []int64) (int64, int64) {
	v, a, was, step := int64(0), int64(0), from, int64(0)
	for _, pos := range row {
		v, a = max(v, size(pos-was)), max(a, size(pos-was-step))
		was, step = pos, pos-was
	}
	return v, a
}

// P10.3: each row of six places out of four, and the last one some cycles more.
func TestEachShortRow(t *testing.T) {
	for n := range 4096 {
		row := []int64{}
		for k := n; len(row) < 6; k /= 4 {
			row = append(row, int64(k%4)-1)
		}
		for _, m := range []int{1, 2, 3, 5, 16} {
			whole := append(slices.Clone(row), filled(m+2, row[5])...)
			v, a := steps(0, whole)
			tryRow(t, m, 0, whole, v, a)
		}
	}
}

// mixed goes on from a number to the next one of a row that looks like chance, and is none.
func mixed(n uint64) uint64 { return n*6364136223846793005 + 1442695040888963407 }

// longRow of places from a place on, with steps of at most v and changes of steps of at most a, as great as may be every now and then.
func longRow(from, v, a int64, kind uint64, cycles int) []int64 {
	row, pos, step := []int64{}, from, int64(0)
	for n := mixed(kind); len(row) < cycles; n = mixed(n) {
		more := int64(n>>33)%(2*a+1) - a
		switch n >> 61 {
		case 0, 1:
			more = a
		case 2, 3:
			more = -a
		case 4:
			more = 0
		}
		step = max(-v, min(step+more, v))
		// What would lead beyond the bounds of places ends the row.
		if size(pos+step) > endPlace {
			break
		}
		pos += step
		row = append(row, pos)
	}
	return row
}

// P10.3: long rows, of small and of great steps, from about all places.
func TestLongRows(t *testing.T) {
	for m := 1; m <= mostPlaces; m++ {
		for _, from := range []int64{0, 100, -3000, endPlace / 2, 1000 - endPlace, endPlace, -endPlace} {
			for _, v := range []int64{1, 3, 50, 1 << 20, endPlace / 16} {
				for _, a := range []int64{1, 2, 7, 1 << 20} {
					for kind := range uint64(3) {
						tryRow(t, m, from, longRow(from, v, a, kind, 300), v, a)
					}
				}
			}
		}
	}
}

// P10.3: from end to end of all places, at one go and back.
func TestEndToEnd(t *testing.T) {
	for m := 1; m <= mostPlaces; m++ {
		row := append(append(filled(m, endPlace), filled(m+1, -endPlace)...), endPlace, -endPlace, endPlace, 0)
		tryRow(t, m, -endPlace, row, 2*endPlace, 4*endPlace)
		tryRow(t, m, 0, row, 2*endPlace, 4*endPlace)
	}
}

// P10.3: as many cycles at one place as the window has: not sooner, and from then on, whatever was ahead.
func TestBehindAsManyCycles(t *testing.T) {
	for m := 1; m <= mostPlaces; m++ {
		for _, pos := range places() {
			s := window(counted(m, -50)...)
			for range m {
				if m > 1 && Rest(s) {
					t.Errorf("%v rests too soon", s)
				}
				s = Push(s, pos)
			}
			for range 3 {
				if Out(s) != int64(m)*pos || !Rest(s) {
					t.Errorf("%d cycles at %d: %v, %d", m, pos, s, Out(s))
				}
				s = Push(s, pos)
			}
		}
	}
}

// P10.3: some setpoints, written out.
func TestSetpoints(t *testing.T) {
	for _, c := range []struct {
		m         int
		from      int64
		row, want []int64
	}{
		{1, 5, []int64{7, 9, 9, 2}, []int64{7, 9, 9, 2}},
		{2, 5, []int64{7, 9, 9, 9}, []int64{12, 16, 18, 18}},
		{3, 0, []int64{6, 12, 18, 18, 18, 18}, []int64{6, 18, 36, 48, 54, 54}},
		{4, 10, []int64{6, 2, 2, 2, 2}, []int64{36, 28, 20, 12, 8}},
		{16, 0, []int64{5, 10, 10, 10}, []int64{5, 15, 25, 35}},
		{16, -1, []int64{0, 0, 0, 0}, []int64{-15, -14, -13, -12}},
	} {
		s, e := New(c.m, c.from)
		if e != api.OK {
			t.Fatalf("New(%d, %d): %d", c.m, c.from, e)
		}
		outs := []int64{}
		for _, pos := range c.row {
			s = Push(s, pos)
			outs = append(outs, Out(s))
		}
		if !slices.Equal(outs, c.want) {
			t.Errorf("%d places, from %d by %v: %v, not %v", c.m, c.from, c.row, outs, c.want)
		}
	}
}

// The limits are api's, as they are written out above.
func TestLimits(t *testing.T) {
	if api.MaxWindow != mostPlaces || 2*api.MaxPos != endPlace {
		t.Errorf("%d places, to %d", api.MaxWindow, int64(2*api.MaxPos))
	}
}
