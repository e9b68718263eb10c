package axis

import (
	"testing"

	"servitor/api"
	"servitor/state"
)

// draw is a row of numbers of all sizes and both signs, by a rule that mixes them.
type draw struct{ n uint64 }

// bits are 32 bits of the row's next number.
func (d *draw) bits() uint64 {
	d.n = d.n*6364136223846793005 + 1442695040888963407
	return d.n >> 32
}

// below is a number from 0 on, below a bound.
func (d *draw) below(bound int) int { return int(d.bits() % uint64(bound)) }

// within is a number from one to another, not too far from it.
func (d *draw) within(lo, hi int64) int64 { return lo + int64(d.bits()%uint64(hi-lo+1)) }

// number of any size.
func (d *draw) number() int64 { return int64(d.bits()<<32|d.bits()) >> d.below(64) }

// often: true but once in so many.
func (d *draw) often(n int) bool { return d.below(n) != 0 }

// limits of an axis, small ones or great ones.
func (d *draw) limits() api.Limits {
	switch d.below(4) {
	case 0:
		return api.Limits{Vel: d.within(1, 9), Acc: d.within(1, 4), Dec: d.within(1, 4), Lo: d.within(-40, 0), Hi: d.within(0, 40)}
	case 1:
		return api.Limits{Vel: d.within(1, 200), Acc: d.within(1, 20), Dec: d.within(1, 20), Lo: d.within(-4000, 0), Hi: d.within(0, 4000)}
	case 2:
		return api.Limits{Vel: d.within(1, maxSpeed), Acc: d.within(1, maxGain), Dec: d.within(1, maxGain), Lo: -d.within(0, 1<<31), Hi: d.within(0, 1<<31)}
	}
	return api.Limits{Vel: maxSpeed, Acc: maxGain, Dec: d.within(1, maxGain), Lo: -maxPlace, Hi: maxPlace}
}

// axis that was just made.
func (d *draw) axis(t *testing.T, window int) api.Axis {
	t.Helper()
	l := d.limits()
	fast := d.within(1, min(l.Vel+2, maxSpeed))
	creep := d.within(1, fast)
	if d.below(2) == 0 {
		fast, creep = -fast, -creep
	}
	at := l.Lo
	if l.Hi-l.Lo < 1<<32 {
		at = d.within(l.Lo, l.Hi)
	}
	a, e := New(l, window, at, fast, creep)
	if e != api.OK {
		t.Fatal(l, window, at, fast, creep)
	}
	return a
}

// speed that the axis may have, or one beyond, or any number.
func (d *draw) speed(a api.Axis) int64 {
	switch {
	case d.often(12):
		return d.within(1, a.Limits.Vel)
	case d.often(2):
		return a.Limits.Vel + 1
	}
	return d.number()
}

// way from a place that isn't far, or to an end, or any number.
func (d *draw) way(a api.Axis) int64 {
	switch {
	case d.often(6):
		n := 20 * min(a.Limits.Vel, 1<<24)
		return d.within(-n, n)
	case d.often(3):
		return a.Limits.Hi
	case d.often(3):
		return a.Limits.Lo
	}
	return d.number()
}

// command of any kind.
func (d *draw) command(a api.Axis, id int) api.Command {
	c := api.Command{ID: id, Kind: d.below(9), Target: d.way(a), Speed: d.speed(a), Mode: 0, Num: d.within(-5, 5), Den: d.within(0, 4)}
	if d.below(2) == 0 {
		c.Kind = 1 + d.below(3)
		c.Mode = d.below(6)
	}
	if c.Kind == api.CmdSpeed && d.below(2) == 0 {
		c.Speed = -c.Speed
	}
	if !d.often(20) {
		c.Kind, c.Mode = int(d.number()), int(d.number())
	}
	if !d.often(20) {
		c.Target, c.Speed, c.Num, c.Den = d.number(), d.number(), d.number(), d.number()
	}
	return c
}

// rarely: true just once in so many.
func (d *draw) rarely(n int) bool { return d.below(n) == 0 }

// in is what comes in a cycle: the calm ones go on for long.
func (d *draw) in(a api.Axis, calm bool, master int64, next *int) api.In {
	n := 40
	if !calm {
		n = 6
	}
	in := api.In{
		Power: d.often(2 * n), Op: d.often(3 * n), Actual: a.Gen.Pos + a.Offset + d.within(-1, 1), Plus: d.rarely(n), Minus: d.rarely(n), Home: d.rarely(n / 2),
		Reset: d.rarely(4), Release: d.rarely(3), Override: 100, Master: master,
	}
	if d.rarely(3 * n) {
		in.Cause = int(d.within(1, 7))
	}
	if d.rarely(n) {
		in.Override = int(d.within(-20, 120))
	}
	if d.rarely(2 * n) {
		in.Actual, in.Override, in.Cause = d.number(), int(d.number()), int(d.number())
	}
	for d.rarely(4) {
		*next++
		in.Commands = append(in.Commands, d.command(a, *next))
	}
	return in
}

// ledger is what the commands of an axis were told by now.
type ledger struct {
	last    map[int]int // what was told of each at last; 0: it waits
	reports [6]int
	states  [8]int
}

// book writes down a cycle's commands and reports; each may be told what fits to what it was told ahead.
func (b *ledger) book(t *testing.T, in api.In, l []api.Report) {
	t.Helper()
	for _, c := range in.Commands {
		b.last[c.ID] = 0
	}
	for _, r := range l {
		was, known := b.last[r.ID]
		fits := false
		switch r.What {
		case active, refused:
			fits = was == 0
		case done, failed:
			fits = was == active
		case aborted:
			fits = was == 0 || was == active
		}
		if !fits || !known {
			t.Fatalf("%v was told behind %d", r, was)
		}
		b.last[r.ID] = r.What
		b.reports[r.What]++
	}
}

// open are the commands of an axis that are not over: just those of its line.
func (b *ledger) open(t *testing.T, a api.Axis) {
	t.Helper()
	n := 0
	for _, what := range b.last {
		if what == 0 || what == active {
			n++
		}
	}
	l := ids(a)
	if n != len(l) {
		t.Fatalf("%d commands are open, in the line are %v", n, l)
	}
	for i, id := range l {
		if what := b.last[id]; i == 0 && what != active || i > 0 && what != 0 {
			t.Fatalf("command %d of the line %v was told %d", id, l, what)
		}
	}
}

// edge: does anything that happens lead from one state to another, or is it the same one?
func edge(from, to int) bool {
	if from == to {
		return true
	}
	for event := 1; event <= 12; event++ {
		if n, ok := state.Next(from, event); ok && n == to {
			return true
		}
	}
	return false
}

// size of a number without its sign.
func size(n int64) int64 { return max(n, -n) }

// tryCycle asks for all of P15.4 of one cycle.
func tryCycle(t *testing.T, a api.Axis, in api.In) (api.Axis, []api.Report) {
	t.Helper()
	n, l := step(t, a, in)
	switch {
	case !Right(n):
		t.Fatalf("not right: %+v\nfrom %+v\nby %+v", n, a, in)
	case !edge(a.State, n.State):
		t.Fatalf("from state %d to %d: %+v by %+v", a.State, n.State, a, in)
	case n.Limits != a.Limits || n.Window != a.Window || n.HomeAt != a.HomeAt || n.Fast != a.Fast || n.Creep != a.Creep:
		t.Fatalf("another axis: %+v, %+v", a, n)
	}
	if (a.State == disabled) == (n.State == disabled) {
		trySmooth(t, a, n)
	}
	return n, l
}

// trySmooth asks how far what the drive is told moves, and how the speed changes, in a cycle in which it wasn't switched.
func trySmooth(t *testing.T, a, n api.Axis) {
	t.Helper()
	if way := size(Out(n) - Out(a)); way > int64(a.Window)*maxSpeed {
		t.Fatalf("its drive is moved by %d: %+v, %+v", way, a, n)
	}
	if way := size(Out(n) - Out(a)); way > int64(a.Window)*fastestOf(a, n) {
		t.Fatalf("its drive is moved by %d: %+v, %+v", way, a, n)
	}
	if gain := size(n.Gen.Vel - a.Gen.Vel); gain > max(a.Limits.Acc, a.Limits.Dec) {
		t.Fatalf("its speed is changed by %d: %+v, %+v", gain, a, n)
	}
}

// fastestOf is the greatest way of one cycle in what the window has, and gets.
func fastestOf(a, n api.Axis) int64 {
	way := size(n.Gen.Vel)
	for i, pos := range a.Smooth.Last[1:] {
		way = max(way, size(a.Smooth.Last[i]-pos))
	}
	return way
}

// masters are a place's walk, cycle by cycle: steps, or jumps from end to end.
func (d *draw) master(at int64) int64 {
	switch {
	case d.often(10):
		return at + d.within(-9, 9)
	case d.often(2):
		return d.number()
	case d.often(2):
		return great - d.within(0, 9)
	}
	return least + d.within(0, 9)
}

// row of cycles from an axis.
func (b *ledger) row(t *testing.T, d *draw, a api.Axis, cycles int, calm bool) {
	t.Helper()
	next, master := 0, int64(0)
	b.last = map[int]int{}
	for i, id := range ids(a) {
		b.last[id] = 0
		if i == 0 {
			b.last[id] = active
		}
		next = max(next, id)
	}
	for range cycles {
		// Near both ends it may wrap round: so it jumps from end to end.
		master = d.master(master)
		in := d.in(a, calm, master, &next)
		n, l := tryCycle(t, a, in)
		b.book(t, in, l)
		b.open(t, n)
		b.states[n.State]++
		a = n
	}
}

// came: did the rows come to all states, and to all that may be told?
func (b *ledger) came(t *testing.T) {
	t.Helper()
	for what, n := range b.reports[1:] {
		if n < 100 {
			t.Errorf("%d reports of %d", n, what+1)
		}
	}
	for s, n := range b.states {
		if n < 100 {
			t.Errorf("%d cycles in state %d", n, s)
		}
	}
}

// P15.4: drawn rows of cycles from axes that were just made, of all windows.
func TestDrawnRows(t *testing.T) {
	b, d := &ledger{}, &draw{1}
	for window := 1; window <= 16; window++ {
		for i := range 60 {
			b.row(t, d, d.axis(t, window), 300, i%2 == 0)
		}
	}
	b.came(t)
}

// P15.4: drawn rows from axes of each state that were handed in, homed and not, with a speed and without, above Vel too.
func TestDrawnRowsFromAnyAxis(t *testing.T) {
	b, d := &ledger{}, &draw{2}
	for _, window := range windows() {
		for _, s := range states() {
			for _, vel := range []int64{0, 5, -5, 9, -9} {
				for _, homed := range bothTruths() {
					for _, offset := range []int64{0, maxOffset, -maxOffset} {
						a := inState(going(t, window, 7, vel), s)
						a.Homed, a.Offset = homed, offset
						a.Gen.Vel = vel
						if window > 1 {
							a.Smooth.Last[window-1] = 7 - d.within(-maxSpeed, maxSpeed)
						}
						tryRight(t, a, true)
						b.row(t, d, a, 20, false)
					}
				}
			}
		}
	}
	b.came(t)
}

// P15.4: drawn rows of searches: the switches show where they are, now and then spoilt.
func TestDrawnSearches(t *testing.T) {
	d := &draw{3}
	homed, not := 0, 0
	for window := 1; window <= 16; window++ {
		for range 20 {
			a := d.axis(t, window)
			if a.Limits.Vel > 1000 {
				continue
			}
			a, _ = tryCycle(t, a, on)
			at, end := d.within(-300, 300), d.within(100, 400)
			in := with(api.Command{ID: 1, Kind: api.CmdHome})
			for i := 0; i == 0 || i < 3000 && a.State == homing; i++ {
				pos := a.Gen.Pos
				in.Home, in.Plus, in.Minus = pos >= at && pos <= at+50, pos >= end || d.rarely(2000), pos <= -end || d.rarely(2000)
				a, _ = tryCycle(t, a, in)
				in.Commands = nil
			}
			if a.Homed && a.Gen != (api.Gen{Pos: a.HomeAt}) {
				t.Errorf("%+v", a)
			}
			if a.Homed {
				homed++
			} else {
				not++
			}
		}
	}
	if homed < 20 || not < 20 {
		t.Error(homed, not)
	}
}

// tryRow runs cycles that are written out, one by one, and asks in which state each ends.
func tryRow(t *testing.T, a api.Axis, row []api.In, want []int) {
	t.Helper()
	for i, in := range row {
		a, _ = tryCycle(t, a, in)
		if a.State != want[i] {
			t.Errorf("cycle %d: state %d, not %d", i, a.State, want[i])
		}
	}
}

// P15.4: rows that are written out, through all states.
func TestWrittenRows(t *testing.T) {
	off, fault, reset, free := api.In{}, on, on, on
	fault.Cause, reset.Reset, free.Release = 6, true, true
	stop, halt := with(api.Command{ID: 1, Kind: api.CmdStop}), with(api.Command{ID: 2, Kind: api.CmdHalt})
	speed, gear := with(api.Command{ID: 3, Kind: api.CmdSpeed, Speed: -1}), with(api.Command{ID: 4, Kind: api.CmdGear, Num: 1, Den: 1})
	search, way := with(api.Command{ID: 5, Kind: api.CmdHome}), with(api.Command{ID: 6, Kind: api.CmdRel, Target: 9, Speed: 1})
	for window := 1; window <= 16; window++ {
		a := made(t, window)
		tryRow(t, a, []api.In{off, on, way, speed, gear, speed, way, gear, stop, fault, fault, on, off},
			[]int{disabled, standstill, discrete, continuous, synced, continuous, discrete, synced, stopping, errStop, errStop, errStop, errStop})
		tryRow(t, a, []api.In{on, search, on, off, on, search, fault, off}, []int{standstill, homing, homing, disabled, standstill, homing, errStop, errStop})
		tryRow(t, a, []api.In{on, gear, off, off, fault, reset, off, on, speed, off}, []int{standstill, synced, disabled, disabled, errStop, standstill, disabled, standstill, continuous, disabled})
		tryRow(t, a, []api.In{on, stop, stop, free, free, halt, free, reset}, []int{standstill, stopping, stopping, standstill, standstill, standstill, standstill, standstill})
		tryRow(t, a, []api.In{on, search, search, stop, free}, []int{standstill, homing, homing, stopping, stopping})
	}
}

// P15.4: a master that jumps from end to end of a number moves the axis no faster than it may.
func TestMasterFromEndToEnd(t *testing.T) {
	for _, num := range []int64{1, -1, 2, 1000, least, great} {
		for _, den := range []int64{1, 2, 1000, great} {
			for _, homed := range bothTruths() {
				a := ready(t, 4, 7)
				a.Homed = homed
				in := with(api.Command{ID: 1, Kind: api.CmdGear, Num: num, Den: den})
				for i := range 60 {
					in.Master = []int64{0, great, least, great, 5, -5, least, 0, 1 << 40, -1 << 62}[i%10]
					a, _ = tryCycle(t, a, in)
					in.Commands = nil
					if a.State != synced || size(a.Gen.Vel) > 5 {
						t.Fatalf("%+v", a)
					}
				}
			}
		}
	}
}

// P15.4: rows hang on nothing but what comes, and a row's first cycles on no later ones.
func TestSameRowsAgain(t *testing.T) {
	for i := range uint64(20) {
		var first []api.Axis
		for range 2 {
			d := &draw{100 + i}
			a, next, row := d.axis(t, 1+int(i)%16), 0, []api.Axis{}
			for range 50 {
				a, _ = Step(a, d.in(a, false, 5, &next))
				row = append(row, a)
			}
			if first == nil {
				first = row
			}
			for k := range row {
				if !same(first[k], row[k]) {
					t.Fatalf("%+v, and again %+v", first[k], row[k])
				}
			}
		}
	}
}
