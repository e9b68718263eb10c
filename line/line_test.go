package line

import (
	"math"
	"slices"
	"testing"

	"servitor/api"
)

// The chapter's limit and the modes' numbers, written out: a change of what counts as right must not go by unseen.
const (
	mostWait = 4

	aborting, buffered, blendLow    = 0, 1, 2
	blendPrev, blendNext, blendHigh = 3, 4, 5
)

func modes() []int {
	return []int{aborting, buffered, blendLow, blendPrev, blendNext, blendHigh}
}

// behindModes are those by which a command goes behind the others.
func behindModes() []int { return []int{buffered, blendLow, blendPrev, blendNext, blendHigh} }

// noModes are numbers that are none; some are one by their lower bits, or without their sign.
func noModes() []int {
	return []int{
		math.MinInt, math.MinInt + 1, math.MinInt + 5, -1 << 32, 1 - 1<<32, -257, -256, -255, -6, -5, -3, -2, -1,
		6, 7, 8, 9, 16, 255, 256, 257, 1 << 16, 1 << 31, 1 << 32, 1<<32 + 5, math.MaxInt - 5, math.MaxInt - 1, math.MaxInt,
	}
}

// command with an ID and a mode, whose other parts are unlike those of other IDs.
func command(id, mode int) api.Command {
	n := int64(id)
	return api.Command{ID: id, Kind: 100 + id, Target: 1000*n + 7, Speed: -n, Mode: mode, Num: n << 33, Den: math.MaxInt64 - n}
}

// row of so many commands, with IDs from one on, by all modes in turn.
func row(first, many int) []api.Command {
	some := []api.Command{}
	for id := first; id < first+many; id++ {
		some = append(some, command(id, (id%6+6)%6))
	}
	return some
}

// with is a row in which the command at i has another mode.
func with(some []api.Command, i, mode int) []api.Command {
	changed := slices.Clone(some)
	changed[i].Mode = mode
	return changed
}

// lineOf a row: the first one under way, the others behind it.
func lineOf(some ...api.Command) api.Line {
	if len(some) == 0 {
		return api.Line{}
	}
	return api.Line{Now: some[:1:1], Wait: some[1:]}
}

// same: do two lines have the same commands, under way and waiting?
func same(a, b api.Line) bool { return slices.Equal(a.Now, b.Now) && slices.Equal(a.Wait, b.Wait) }

// idsOf a row.
func idsOf(some []api.Command) []int {
	told := []int{}
	for _, c := range some {
		told = append(told, c.ID)
	}
	return told
}

// rightRows are those of right lines: of each length, by each mode at each place, and with IDs that are alike, 0 or at the ends.
func rightRows() [][]api.Command {
	rows := [][]api.Command{nil, {}}
	for many := 1; many <= 1+mostWait; many++ {
		for i := range many {
			for _, mode := range modes() {
				rows = append(rows, with(row(1, many), i, mode))
			}
		}
		for _, mode := range modes() {
			alike := slices.Repeat([]api.Command{command(77, mode)}, many)
			zero := slices.Repeat([]api.Command{{Mode: mode}}, many)
			rows = append(rows, alike, zero)
		}
		rows = append(rows, row(-3, many), row(900, many))
	}
	return append(rows, ends())
}

// ends is a row of commands all of whose numbers, but the mode, are at an end of theirs.
func ends() []api.Command {
	return []api.Command{
		{ID: math.MaxInt, Kind: math.MinInt, Target: math.MaxInt64, Speed: math.MinInt64, Mode: blendHigh, Num: math.MaxInt64, Den: math.MinInt64},
		{ID: math.MinInt, Kind: math.MaxInt, Target: math.MinInt64, Speed: math.MaxInt64, Mode: aborting, Num: math.MinInt64, Den: math.MaxInt64},
		{ID: -1, Kind: -1, Target: -1, Speed: -1, Mode: buffered, Num: -1, Den: -1},
	}
}

// withoutModes are lines of which one command, wherever it is, has a mode that is none; of the last ones all have.
func withoutModes() []api.Line {
	wrong := []api.Line{}
	for _, mode := range noModes() {
		for many := 1; many <= 1+mostWait; many++ {
			all := row(1, many)
			for i := range many {
				wrong = append(wrong, lineOf(with(row(1, many), i, mode)...))
				all = with(all, i, mode)
			}
			wrong = append(wrong, lineOf(all...))
		}
	}
	return wrong
}

// wrongLengths are lines with too many commands under way or waiting, or of which some wait behind none.
func wrongLengths() []api.Line {
	wrong := []api.Line{}
	for _, now := range []int{2, 3, 4, 5, 256, 257} {
		for _, wait := range []int{0, 1, 2, 3, 4, 5, 6, 256} {
			wrong = append(wrong, api.Line{Now: row(1, now), Wait: row(50, wait)})
		}
	}
	for _, wait := range []int{1, 2, 3, 4, 5, 6, 256} {
		wrong = append(wrong, api.Line{Wait: row(50, wait)}, api.Line{Now: []api.Command{}, Wait: row(50, wait)})
	}
	for _, wait := range []int{5, 6, 7, 8, 9, 15, 16, 17, 255, 256, 257, 260, 4096} {
		wrong = append(wrong, api.Line{Now: row(1, 1), Wait: row(50, wait)}, api.Line{Now: make([]api.Command, 1), Wait: make([]api.Command, wait)})
	}
	return wrong
}

// wrongLines are not right in each way that the chapter names, in some in several.
func wrongLines() []api.Line {
	wrong := append(withoutModes(), wrongLengths()...)
	for _, mode := range []int{-1, 6, math.MinInt, math.MaxInt} {
		wrong = append(wrong,
			api.Line{Wait: with(row(1, 1), 0, mode)},
			api.Line{Wait: with(row(1, 4), 3, mode)},
			api.Line{Now: with(row(1, 2), 1, mode)},
			api.Line{Now: row(1, 1), Wait: with(row(2, 5), 4, mode)},
			api.Line{Now: with(row(1, 1), 0, mode), Wait: row(2, 6)})
	}
	return append(wrong, api.Line{Wait: make([]api.Command, 1)}, api.Line{Now: make([]api.Command, 2)})
}

// tryAdd asks for a line, and for the IDs that are told.
func tryAdd(t *testing.T, l api.Line, c api.Command, want api.Line, told []int) {
	t.Helper()
	n, ids, e := Add(l, c)
	if e != api.OK || !same(n, want) || !slices.Equal(ids, told) {
		t.Errorf("Add(%v, %v): %v %v %d, not %v %v", l, c, n, ids, e, want, told)
	}
	if !Right(n) {
		t.Errorf("Add(%v, %v): %v is not right", l, c, n)
	}
}

// tryNoAdd asks for an error alone.
func tryNoAdd(t *testing.T, l api.Line, c api.Command, want api.Errno) {
	t.Helper()
	n, ids, e := Add(l, c)
	if e != want || len(n.Now) != 0 || len(n.Wait) != 0 || len(ids) != 0 {
		t.Errorf("Add(%v, %v): %v %v %d, not %d alone", l, c, n, ids, e, want)
	}
}

// P12.1: the chapter's example.
func TestExample(t *testing.T) {
	l, told, e := Add(api.Line{}, api.Command{ID: 1})
	if e != api.OK || len(told) != 0 {
		t.Fatalf("%v %v %d", l, told, e)
	}
	l, told, e = Add(l, api.Command{ID: 2, Mode: api.Buffered})
	if e != api.OK || len(told) != 0 {
		t.Fatalf("%v %v %d", l, told, e)
	}
	l, told, e = Add(l, api.Command{ID: 3, Mode: api.Aborting})
	if e != api.OK || !slices.Equal(told, []int{1, 2}) || len(l.Now) != 1 || l.Now[0].ID != 3 || len(l.Wait) != 0 {
		t.Errorf("%v %v %d", l, told, e)
	}
}

// P12.1: the line of the command alone, by whatever mode it comes.
func TestAddToTheEmptyLine(t *testing.T) {
	for _, mode := range modes() {
		c := command(9, mode)
		want := api.Line{Now: []api.Command{c}}
		tryAdd(t, api.Line{}, c, want, nil)
		tryAdd(t, api.Line{Now: []api.Command{}, Wait: []api.Command{}}, c, want, nil)
	}
}

// P12.1: an aborting one is alone, wherever it comes to; all others are told, also where MaxLine wait.
func TestAddAborting(t *testing.T) {
	for _, some := range rightRows() {
		c := command(9, aborting)
		tryAdd(t, lineOf(some...), c, api.Line{Now: []api.Command{c}}, idsOf(some))
	}
}

// P12.1: by each other mode it is behind all, as it came, and nothing is told.
func TestAddBehind(t *testing.T) {
	tried := map[int]int{}
	for _, some := range rightRows() {
		if len(some) == 0 || len(some) > mostWait {
			continue
		}
		for _, mode := range behindModes() {
			c := command(9, mode)
			tryAdd(t, lineOf(some...), c, api.Line{Now: some[:1], Wait: append(slices.Clone(some[1:]), c)}, nil)
		}
		tried[len(some)]++
	}
	for many := 1; many <= mostWait; many++ {
		if tried[many] == 0 {
			t.Errorf("no line with %d waiting was tried", many-1)
		}
	}
}

// P12.1: MaxLine wait already.
func TestAddToFull(t *testing.T) {
	tried := 0
	for _, some := range rightRows() {
		if len(some) != 1+mostWait {
			continue
		}
		for _, mode := range behindModes() {
			tryNoAdd(t, lineOf(some...), command(9, mode), api.ErrFull)
		}
		tried++
	}
	if tried == 0 {
		t.Error("no full line was tried")
	}
}

// P12.1: a mode that is none, also where the line is empty or full.
func TestAddWithoutMode(t *testing.T) {
	for _, mode := range noModes() {
		for _, some := range rightRows() {
			tryNoAdd(t, lineOf(some...), command(9, mode), api.ErrArg)
		}
	}
}

// P12.1: a line that is not right takes nothing, by no mode; ErrArg comes ahead of ErrFull.
func TestAddToWrong(t *testing.T) {
	for _, l := range wrongLines() {
		for _, mode := range append(modes(), -1, 6, math.MinInt, math.MaxInt) {
			tryNoAdd(t, l, command(9, mode), api.ErrArg)
		}
	}
}

// P12.1: some lines, written out.
func TestSomeAdds(t *testing.T) {
	one, two, three, four, five, six := command(1, 0), command(2, 1), command(3, 2), command(4, 3), command(5, 4), command(6, 5)
	type list = []api.Command
	for _, c := range []struct {
		l    api.Line
		c    api.Command
		want api.Line
		told []int
		e    api.Errno
	}{
		{api.Line{}, six, api.Line{Now: list{six}}, nil, api.OK},
		{api.Line{Now: list{one}}, two, api.Line{Now: list{one}, Wait: list{two}}, nil, api.OK},
		{api.Line{Now: list{two}}, one, api.Line{Now: list{one}}, []int{2}, api.OK},
		{api.Line{Now: list{six}, Wait: list{five}}, four, api.Line{Now: list{six}, Wait: list{five, four}}, nil, api.OK},
		{api.Line{Now: list{six}, Wait: list{five, four}}, one, api.Line{Now: list{one}}, []int{6, 5, 4}, api.OK},
		{api.Line{Now: list{one}, Wait: list{two, three, four}}, five, api.Line{Now: list{one}, Wait: list{two, three, four, five}}, nil, api.OK},
		{api.Line{Now: list{one}, Wait: list{two, three, four, five}}, six, api.Line{}, nil, api.ErrFull},
		{api.Line{Now: list{six}, Wait: list{two, three, four, five}}, one, api.Line{Now: list{one}}, []int{6, 2, 3, 4, 5}, api.OK},
		{api.Line{Now: list{six}, Wait: list{two, one, four, one}}, one, api.Line{Now: list{one}}, []int{6, 2, 1, 4, 1}, api.OK},
		{api.Line{Now: list{one}, Wait: list{two, three, four, five, six}}, one, api.Line{}, nil, api.ErrArg},
		{api.Line{Now: list{one}, Wait: list{two, three, four, five, six}}, two, api.Line{}, nil, api.ErrArg},
		{api.Line{Wait: list{two}}, one, api.Line{}, nil, api.ErrArg},
		{api.Line{Now: list{one, two}}, one, api.Line{}, nil, api.ErrArg},
		{api.Line{Now: list{one}, Wait: list{command(2, 6)}}, one, api.Line{}, nil, api.ErrArg},
		{api.Line{Now: list{command(1, -1)}}, one, api.Line{}, nil, api.ErrArg},
		{api.Line{Now: list{one}, Wait: list{two, three, four, five}}, command(6, 6), api.Line{}, nil, api.ErrArg},
		{api.Line{}, command(6, -1), api.Line{}, nil, api.ErrArg},
	} {
		if n, told, e := Add(c.l, c.c); !same(n, c.want) || !slices.Equal(told, c.told) || e != c.e {
			t.Errorf("Add(%v, %v): %v %v %d, not %v %v %d", c.l, c.c, n, told, e, c.want, c.told, c.e)
		}
	}
}

// P12.2
func TestRight(t *testing.T) {
	for _, some := range rightRows() {
		if l := lineOf(some...); !Right(l) {
			t.Errorf("%v is not right", l)
		}
	}
	for _, l := range wrongLines() {
		if Right(l) {
			t.Errorf("%v is right", l)
		}
	}
}

// P12.2: each number of commands under way and waiting up to some.
func TestRightLengths(t *testing.T) {
	for now := range 8 {
		for wait := range 12 {
			want := now == 0 && wait == 0 || now == 1 && wait <= mostWait
			if l := (api.Line{Now: row(1, now), Wait: row(50, wait)}); Right(l) != want {
				t.Errorf("%d under way, %d waiting: %t", now, wait, !want)
			}
		}
	}
}

// P12.2: each mode at each place, those at and beyond both ends among them.
func TestRightModes(t *testing.T) {
	for mode := -300; mode <= 300; mode++ {
		for many := 1; many <= 1+mostWait; many++ {
			for i := range many {
				if l := lineOf(with(row(1, many), i, mode)...); Right(l) != (mode >= 0 && mode <= 5) {
					t.Errorf("mode %d at %d of %d: %t", mode, i, many, Right(l))
				}
			}
		}
	}
}

// tryEnds asks a right line for all that P12.2 says of it.
func tryEnds(t *testing.T, l api.Line) {
	t.Helper()
	all := slices.Concat(l.Now, l.Wait)
	want, first := api.Line{}, 0
	if len(all) > 0 {
		want, first = lineOf(all[1:]...), all[0].ID
	}
	if n, id := End(l); !same(n, want) || id != first {
		t.Errorf("End(%v): %v %d, not %v %d", l, n, id, want, first)
	}
	if n, told := Clear(l); len(n.Now) != 0 || len(n.Wait) != 0 || !slices.Equal(told, idsOf(all)) {
		t.Errorf("Clear(%v): %v %v", l, n, told)
	}
	last, next := api.Command{}, api.Command{}
	if len(all) > 0 {
		last = all[len(all)-1]
	}
	if len(all) > 1 {
		next = all[1]
	}
	if c, ok := Last(l); c != last || ok != (len(all) > 0) {
		t.Errorf("Last(%v): %v %t", l, c, ok)
	}
	if c, ok := Next(l); c != next || ok != (len(all) > 1) {
		t.Errorf("Next(%v): %v %t", l, c, ok)
	}
}

// P12.2
func TestEndClearLastNext(t *testing.T) {
	for _, some := range rightRows() {
		tryEnds(t, lineOf(some...))
	}
	tryEnds(t, api.Line{Now: []api.Command{}, Wait: []api.Command{}})
}

// P12.2: some lines, written out.
func TestSomeEnds(t *testing.T) {
	one, two, three, four, five := command(1, 0), command(2, 1), command(3, 2), command(4, 3), command(5, 4)
	type list = []api.Command
	for _, c := range []struct {
		l          api.Line
		end        api.Line
		id         int
		ids        []int
		last, next api.Command
	}{
		{api.Line{}, api.Line{}, 0, nil, api.Command{}, api.Command{}},
		{api.Line{Now: list{five}}, api.Line{}, 5, []int{5}, five, api.Command{}},
		{api.Line{Now: list{two}, Wait: list{one}}, api.Line{Now: list{one}}, 2, []int{2, 1}, one, one},
		{api.Line{Now: list{five}, Wait: list{three, four}}, api.Line{Now: list{three}, Wait: list{four}}, 5, []int{5, 3, 4}, four, three},
		{api.Line{Now: list{one}, Wait: list{two, three, four, five}}, api.Line{Now: list{two}, Wait: list{three, four, five}}, 1, []int{1, 2, 3, 4, 5}, five, two},
	} {
		if n, id := End(c.l); !same(n, c.end) || id != c.id {
			t.Errorf("End(%v): %v %d", c.l, n, id)
		}
		if n, ids := Clear(c.l); !same(n, api.Line{}) || !slices.Equal(ids, c.ids) {
			t.Errorf("Clear(%v): %v %v", c.l, n, ids)
		}
		if last, ok := Last(c.l); last != c.last || ok != (len(c.l.Now) == 1) {
			t.Errorf("Last(%v): %v %t", c.l, last, ok)
		}
		if next, ok := Next(c.l); next != c.next || ok != (len(c.l.Wait) > 0) {
			t.Errorf("Next(%v): %v %t", c.l, next, ok)
		}
	}
}

// P12.2: of a line that isn't right there is nothing.
func TestLinesThatAreNotRight(t *testing.T) {
	for _, l := range wrongLines() {
		if n, id := End(l); len(n.Now) != 0 || len(n.Wait) != 0 || id != 0 {
			t.Errorf("End(%v): %v %d", l, n, id)
		}
		if n, ids := Clear(l); len(n.Now) != 0 || len(n.Wait) != 0 || len(ids) != 0 {
			t.Errorf("Clear(%v): %v %v", l, n, ids)
		}
		if c, ok := Last(l); c != (api.Command{}) || ok {
			t.Errorf("Last(%v): %v %t", l, c, ok)
		}
		if c, ok := Next(l); c != (api.Command{}) || ok {
			t.Errorf("Next(%v): %v %t", l, c, ok)
		}
	}
}

// room is memory in which a line lies: some ahead of its commands, and some behind them.
type room struct{ now, wait []api.Command }

// inRoom is a line with the commands of another one, within more memory; if it is shared, what waits stands behind the command under way in one and the same.
func inRoom(l api.Line, shared bool) (api.Line, room) {
	now := slices.Concat(row(601, 1), l.Now, l.Wait, row(701, 9))
	wait := slices.Concat(row(801, 1), l.Wait, row(901, 9))
	given := api.Line{Now: now[1 : 1+len(l.Now)], Wait: wait[1 : 1+len(l.Wait)]}
	if shared {
		given.Wait = now[1+len(l.Now) : 1+len(l.Now)+len(l.Wait)]
	}
	return given, room{now, wait}
}

// again is the same room, in memory of its own.
func (r room) again() room { return room{slices.Clone(r.now), slices.Clone(r.wait)} }

// is: have two rooms the same in them?
func (r room) is(other room) bool {
	return slices.Equal(r.now, other.now) && slices.Equal(r.wait, other.wait)
}

// spoil what is in the room.
func (r room) spoil() {
	for i := range r.now {
		r.now[i] = command(-5, -5)
	}
	for i := range r.wait {
		r.wait[i] = command(-6, -6)
	}
}

// restore what was in the room.
func (r room) restore(was room) {
	copy(r.now, was.now)
	copy(r.wait, was.wait)
}

// answer of a call: a line and IDs, or some of them.
type answer struct {
	l   api.Line
	ids []int
}

// again is the same answer, in memory of its own.
func (a answer) again() answer {
	return answer{api.Line{Now: slices.Clone(a.l.Now), Wait: slices.Clone(a.l.Wait)}, slices.Clone(a.ids)}
}

// is: are two answers the same?
func (a answer) is(other answer) bool { return same(a.l, other.l) && slices.Equal(a.ids, other.ids) }

// tryApart asks that a call leaves the line and the room behind it as they are, and answers memory of its own.
func tryApart(t *testing.T, l api.Line, shared bool, call func(l api.Line) answer) {
	t.Helper()
	given, r := inRoom(l, shared)
	was := r.again()
	a := call(given)
	if !r.is(was) || len(given.Now) != len(l.Now) || len(given.Wait) != len(l.Wait) {
		t.Errorf("%v became %v", was, r)
	}
	told := a.again()
	r.spoil()
	if !a.is(told) {
		t.Errorf("%v became %v behind the line %v", told, a, l)
	}
	r.restore(was)
	for i := range a.l.Now[:cap(a.l.Now)] {
		a.l.Now[:cap(a.l.Now)][i] = command(-7, -7)
	}
	if !slices.Equal(a.l.Wait, told.l.Wait) {
		t.Errorf("%v became %v behind Now's room", told, a)
	}
	copy(a.l.Now, told.l.Now)
	for i := range a.l.Wait[:cap(a.l.Wait)] {
		a.l.Wait[:cap(a.l.Wait)][i] = command(-8, -8)
	}
	if !slices.Equal(a.l.Now, told.l.Now) || !slices.Equal(a.ids, told.ids) {
		t.Errorf("%v became %v behind Wait's room", told, a)
	}
	if !r.is(was) {
		t.Errorf("%v became %v behind the answer %v", was, r, told)
	}
}

// calls are all that take a line.
func calls() []func(l api.Line) answer {
	all := []func(l api.Line) answer{
		func(l api.Line) answer { Right(l); return answer{} },
		func(l api.Line) answer { Last(l); return answer{} },
		func(l api.Line) answer { Next(l); return answer{} },
		func(l api.Line) answer { n, _ := End(l); return answer{n, nil} },
		func(l api.Line) answer { n, ids := Clear(l); return answer{n, ids} },
	}
	for _, mode := range append(modes(), -1, 6) {
		all = append(all, func(l api.Line) answer { n, ids, _ := Add(l, command(9, mode)); return answer{n, ids} })
	}
	return all
}

// Rule 3 of 'Rules that hold everywhere', for all of P12.1 and P12.2.
func TestApart(t *testing.T) {
	lines := wrongLines()
	for _, some := range rightRows() {
		lines = append(lines, lineOf(some...))
	}
	for _, l := range lines {
		for _, call := range calls() {
			tryApart(t, l, false, call)
			tryApart(t, l, true, call)
		}
	}
}

// P12.1, P12.2: a line from which others are made keeps to itself, and so do they.
func TestTwoOfOne(t *testing.T) {
	l := lineOf(row(1, 3)...)
	a, _, _ := Add(l, command(10, buffered))
	b, _, _ := Add(l, command(20, blendLow))
	c, _ := End(l)
	d, _, _ := Add(c, command(30, blendHigh))
	e, _ := End(a)
	f, _, _ := Add(a, command(40, buffered))
	for _, k := range []struct {
		l    api.Line
		want []int
	}{{l, []int{1, 2, 3}}, {a, []int{1, 2, 3, 10}}, {b, []int{1, 2, 3, 20}}, {c, []int{2, 3}}, {d, []int{2, 3, 30}}, {e, []int{2, 3, 10}}, {f, []int{1, 2, 3, 10, 40}}} {
		if got := idsOf(slices.Concat(k.l.Now, k.l.Wait)); !slices.Equal(got, k.want) {
			t.Errorf("%v, not %v", got, k.want)
		}
	}
}

// Rule 4 of 'Rules that hold everywhere': the same arguments answer the same, whatever was asked before.
func TestNothingIsKept(t *testing.T) {
	for range 5 {
		l := lineOf(row(1, 5)...)
		tryEnds(t, l)
		tryNoAdd(t, l, command(9, buffered), api.ErrFull)
		tryNoAdd(t, api.Line{Wait: row(1, 1)}, command(9, aborting), api.ErrArg)
		tryAdd(t, l, command(9, aborting), lineOf(command(9, aborting)), []int{1, 2, 3, 4, 5})
		tryAdd(t, api.Line{}, command(9, buffered), lineOf(command(9, buffered)), nil)
		tryEnds(t, api.Line{})
	}
}

// Things that are done to a line in a row: the modes' numbers, and some that are none, for an Add, and these two.
const (
	doEnd   = 100
	doClear = 200
)

// course of a row of things done: the line, and of all IDs those that it took and those that left it, in order.
type course struct {
	l           api.Line
	taken, left []int
}

// added is the course behind one more Add.
func (k course) added(t *testing.T, mode int) course {
	t.Helper()
	id, waits := len(k.taken)+1, len(k.taken)-len(k.left)-1
	n, told, e := Add(k.l, command(id, mode))
	want := api.OK
	switch {
	case mode < 0 || mode > 5:
		want = api.ErrArg
	case mode != aborting && waits >= mostWait:
		want = api.ErrFull
	}
	if e != want {
		t.Fatalf("Add by mode %d, %d waiting: %d, not %d", mode, waits, e, want)
	}
	if e != api.OK {
		return k
	}
	if mode != aborting && len(told) != 0 {
		t.Fatalf("Add by mode %d told %v", mode, told)
	}
	if mode == aborting && len(n.Wait) != 0 {
		t.Fatalf("%v wait behind an aborting one", n.Wait)
	}
	return course{n, append(k.taken[:len(k.taken):len(k.taken)], id), slices.Concat(k.left, told)}
}

// behind is the course behind one thing more.
func (k course) behind(t *testing.T, what int) course {
	t.Helper()
	switch what {
	case doEnd:
		n, id := End(k.l)
		if len(k.taken) == len(k.left) {
			if id != 0 {
				t.Fatalf("the empty line ended %d", id)
			}
			return course{n, k.taken, k.left}
		}
		return course{n, k.taken, append(k.left[:len(k.left):len(k.left)], id)}
	case doClear:
		n, told := Clear(k.l)
		if len(n.Now) != 0 || len(n.Wait) != 0 {
			t.Fatalf("%v behind Clear", n)
		}
		return course{n, k.taken, slices.Concat(k.left, told)}
	}
	return k.added(t, what)
}

// hold asks what P12.3 promises: a right line, in which there is just what was taken and hasn't left, in the order in which it came.
func (k course) hold(t *testing.T) {
	t.Helper()
	if !Right(k.l) {
		t.Fatalf("%v is not right", k.l)
	}
	if got := slices.Concat(k.left, idsOf(k.l.Now), idsOf(k.l.Wait)); !slices.Equal(got, k.taken) {
		t.Fatalf("%v left, %v is there, %v were taken", k.left, k.l, k.taken)
	}
	for _, c := range slices.Concat(k.l.Now, k.l.Wait) {
		if c != command(c.ID, c.Mode) {
			t.Fatalf("%v is not as it came", c)
		}
	}
	for _, c := range k.l.Wait {
		if c.Mode == aborting {
			t.Fatalf("%v waits", c)
		}
	}
}

// tryRow of things done, from the empty line on.
func tryRow(t *testing.T, what []int) course {
	t.Helper()
	k := course{}
	for _, w := range what {
		k = k.behind(t, w)
		k.hold(t)
	}
	return k
}

// tryEach row that goes on from here by so many things more.
func tryEach(t *testing.T, k course, more int) {
	t.Helper()
	k.hold(t)
	if more == 0 {
		return
	}
	for _, what := range []int{aborting, buffered, 6, doEnd, doClear} {
		tryEach(t, k.behind(t, what), more-1)
	}
}

// P12.3: each row of eight.
func TestEachShortRow(t *testing.T) {
	tryEach(t, course{}, 8)
}

// mixed goes on from a number to the next one of a row that looks like chance, and is none.
func mixed(n uint64) uint64 { return n*6364136223846793005 + 1442695040888963407 }

// longRow of some of these things, in an order of its kind.
func longRow(kind uint64, some []int) []int {
	what := []int{}
	for n := mixed(kind); len(what) < 700; n = mixed(n) {
		what = append(what, some[n>>33%uint64(len(some))])
	}
	return what
}

// P12.3: long rows: of all things, of few ends, of nothing but ends, and with modes that are none.
func TestLongRows(t *testing.T) {
	all := append(modes(), doEnd, doClear)
	for kind := range uint64(20) {
		tryRow(t, longRow(kind, all))
		tryRow(t, longRow(kind, append(all, noModes()...)))
		tryRow(t, longRow(kind, append(behindModes(), doEnd)))
		tryRow(t, longRow(kind, append(behindModes(), doEnd, doEnd, doEnd, doEnd, doEnd)))
		tryRow(t, longRow(kind, append(behindModes(), doEnd, doEnd, aborting)))
		tryRow(t, longRow(kind, []int{buffered, aborting}))
		tryRow(t, longRow(kind, []int{blendHigh, doClear}))
		tryRow(t, longRow(kind, []int{doEnd, doClear}))
	}
}

// P12.3: whatever is behind, by a Clear, or by ends, each one left just once.
func TestAllLeave(t *testing.T) {
	all := append(modes(), doEnd, doClear)
	for kind := range uint64(20) {
		what := longRow(kind, all)
		for _, way := range [][]int{{doClear}, {doEnd, doEnd, doEnd, doEnd, doEnd}, {doEnd, doClear}, {aborting, doEnd}} {
			k := tryRow(t, append(slices.Clone(what), way...))
			times := map[int]int{}
			for _, id := range k.left {
				times[id]++
			}
			for _, id := range k.taken {
				if times[id] != 1 {
					t.Fatalf("%d left %d times", id, times[id])
				}
			}
			if len(k.taken) != len(k.left) || len(k.taken) == 0 {
				t.Fatalf("%d were taken, %d left", len(k.taken), len(k.left))
			}
		}
	}
}

// P12.3: some rows, written out: what left, and what is there still.
func TestSomeRows(t *testing.T) {
	for _, c := range []struct{ what, left, there []int }{
		{[]int{}, nil, nil},
		{[]int{doEnd, doClear}, nil, nil},
		{[]int{aborting, buffered, aborting}, []int{1, 2}, []int{3}},
		{[]int{buffered, blendLow, blendPrev, blendNext, blendHigh, buffered}, nil, []int{1, 2, 3, 4, 5}},
		{[]int{buffered, buffered, buffered, buffered, buffered, doEnd, buffered, buffered}, []int{1}, []int{2, 3, 4, 5, 6}},
		{[]int{buffered, buffered, buffered, buffered, buffered, aborting, buffered, doEnd}, []int{1, 2, 3, 4, 5, 6}, []int{7}},
		{[]int{buffered, buffered, doEnd, doEnd, doEnd, blendHigh, buffered, doClear, aborting}, []int{1, 2, 3, 4}, []int{5}},
		{[]int{aborting, aborting, 6, -1, aborting, doEnd}, []int{1, 2, 3}, nil},
	} {
		k := tryRow(t, c.what)
		if there := idsOf(slices.Concat(k.l.Now, k.l.Wait)); !slices.Equal(k.left, c.left) || !slices.Equal(there, c.there) {
			t.Errorf("%v: %v left, %v there", c.what, k.left, there)
		}
	}
}

// P12.3: lines of any modes stay right behind an Add, an End and a Clear, also with aborting ones that wait.
func TestAnyRightLineStaysRight(t *testing.T) {
	for _, some := range rightRows() {
		l := lineOf(some...)
		for i, call := range calls() {
			if n := call(l).l; !Right(n) {
				t.Errorf("call %d of %v: %v is not right", i, l, n)
			}
		}
	}
}

// The limit and the modes are api's, as they are written out above.
func TestLimits(t *testing.T) {
	if api.MaxLine != mostWait {
		t.Errorf("MaxLine: %d", api.MaxLine)
	}
	if !slices.Equal([]int{api.Aborting, api.Buffered, api.BlendLow, api.BlendPrev, api.BlendNext, api.BlendHigh}, modes()) {
		t.Error("modes")
	}
}
