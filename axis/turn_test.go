package axis

import (
	"math"
	"slices"
	"testing"

	"servitor/api"
)

// valid commands, of each kind one: those that a homed axis of small limits may take somewhere.
func valid() []api.Command {
	return []api.Command{
		move(21, 30, 5, 0), {ID: 22, Kind: api.CmdRel, Target: 3, Speed: 5}, {ID: 23, Kind: api.CmdAdd, Target: 3, Speed: 5},
		{ID: 24, Kind: api.CmdSpeed, Speed: 5}, {ID: 25, Kind: api.CmdHalt}, {ID: 26, Kind: api.CmdStop}, {ID: 27, Kind: api.CmdHome},
		{ID: 28, Kind: api.CmdGear, Num: 1, Den: 1}, {ID: 29, Kind: api.CmdRel, Target: 3, Speed: 5, Mode: 1},
	}
}

// refusals of all valid commands.
func refusals() []api.Report { return told(refused, 21, 22, 23, 24, 25, 26, 27, 28, 29) }

// braked is a speed behind a cycle of small limits in which none is wanted.
func braked(v int64) int64 {
	if v < 0 {
		return min(v+3, 0)
	}
	return max(v-3, 0)
}

// stopped is an axis in ErrorStop, behind the cycle in which a cause put it there.
func stopped(a api.Axis, cause int) api.Axis {
	a.State, a.Cause, a.Line = errStop, cause, api.Line{}
	return behind(a, braked(a.Gen.Vel))
}

// lost are the reports of an axis' commands at an error: the one under way, and those that wait.
func lost(a api.Axis) []api.Report {
	l := ids(a)
	if len(l) == 0 {
		return nil
	}
	return append(told(failed, l[0]), told(aborted, l[1:]...)...)
}

// P15.2, part 1: Override is from 0 to 100, in each state, also where nothing goes by it.
func TestOverride(t *testing.T) {
	for _, c := range []struct{ come, is int }{
		{math.MinInt, 0}, {math.MinInt + 1, 0}, {-1 << 32, 0}, {-100, 0}, {-1, 0}, {0, 0}, {1, 1}, {37, 37}, {99, 99}, {100, 100},
		{101, 100}, {127, 100}, {256, 100}, {1<<32 + 1, 100}, {math.MaxInt - 1, 100}, {math.MaxInt, 100},
	} {
		for _, a := range rightAxes(t, 2) {
			for _, was := range []int{0, 63, 100} {
				a.Override = was
				in := on
				in.Override = c.come
				if n, _ := step(t, a, in); n.Override != c.is {
					t.Errorf("state %d: Override is %d behind %d", a.State, n.Override, c.come)
				}
				if n, _ := step(t, a, api.In{Override: c.come, Cause: api.CauseScan}); n.Override != c.is {
					t.Errorf("state %d: Override is %d behind %d, with a cause", a.State, n.Override, c.come)
				}
			}
		}
	}
}

// P15.2, part 2: a cause from outside in each state, with what is under way and waits.
func TestCauseFromOutside(t *testing.T) {
	for _, cause := range []int{1, 2, 3, 4, 5, 6, 7, 99, -1, math.MinInt, math.MaxInt} {
		for _, window := range []int{1, 4} {
			for _, a := range rightAxes(t, window) {
				in := on
				in.Cause = cause
				in.Commands = valid()
				if a.State == errStop {
					tryStep(t, a, in, behind(a, braked(a.Gen.Vel)), refusals()...)
				} else if a.State != disabled {
					tryStep(t, a, in, stopped(a, cause), append(lost(a), refusals()...)...)
				}
			}
		}
	}
}

// P15.2, part 2: of a Disabled axis CauseScan alone counts.
func TestCauseOfDisabled(t *testing.T) {
	for _, cause := range []int{1, 2, 3, 4, 5, 6, 7, -1, math.MinInt, math.MaxInt} {
		a := inState(ready(t, 2, 7), disabled)
		off := api.In{Override: 100, Cause: cause, Commands: valid()}
		want := a
		if cause == 6 {
			want = stopped(a, 6)
		}
		tryStep(t, a, off, want, refusals()...)
		// It is switched on by what comes, since no other cause counts.
		in := on
		in.Cause, in.Actual, in.Commands = cause, 7, valid()
		if cause != 6 {
			want.State = standstill
		}
		tryStep(t, a, in, want, refusals()...)
	}
}

// P15.2, part 2: how many wait, their order, and IDs that are any numbers.
func TestReportsOfErrors(t *testing.T) {
	for _, row := range [][]int{{8}, {8, 3}, {8, 3, 9}, {3, 9, 1, 2}, {5, 4, 3, 2, 1}, {0, 0, 0}, {-1, math.MaxInt, math.MinInt}} {
		a := under(ready(t, 2, 7), discrete, move(row[0], 20, 3, 0))
		for _, id := range row[1:] {
			a.Line.Wait = append(a.Line.Wait, move(id, 30, 3, 1))
		}
		in := on
		in.Cause = 3
		tryReports(t, a, in, append(told(failed, row[0]), told(aborted, row[1:]...)...)...)
		tryReports(t, a, api.In{}, told(aborted, row...)...)
	}
	// A stop that is done already has no command.
	a := inState(ready(t, 2, 7), stopping)
	a.Line = api.Line{}
	in := on
	in.Cause = 1
	tryStep(t, a, in, stopped(a, 1))
}

// P15.2, part 2: a drive that doesn't follow, though it is wanted.
func TestCauseDrive(t *testing.T) {
	for _, a := range rightAxes(t, 3) {
		for _, op := range bothTruths() {
			for _, power := range bothTruths() {
				n, l := step(t, a, api.In{Power: power, Op: op, Override: 100, Actual: a.Gen.Pos})
				fails := power && !op && a.State != disabled && a.State != errStop
				if got := n.State == errStop && a.State != errStop; got != fails {
					t.Errorf("power %v, op %v: from %d to %d", power, op, a.State, n.State)
				}
				if fails && (!same(n, stopped(a, 2)) || !slices.Equal(l, lost(a))) {
					t.Errorf("%+v %v\nbehind a drive that doesn't follow, from %+v", n, l, a)
				}
			}
		}
	}
}

// P15.2, part 2: a switch at the end towards which it goes, but in Homing.
func TestCauseSwitch(t *testing.T) {
	for _, state := range states() {
		for _, vel := range []int64{-5, -1, 0, 1, 5} {
			for _, plus := range bothTruths() {
				for _, minus := range bothTruths() {
					a := inState(going(t, 3, 7, vel), state)
					in := on
					in.Plus, in.Minus, in.Actual = plus, minus, 7
					fails := (plus && vel > 0 || minus && vel < 0) && state != disabled && state != homing && state != errStop
					n, l := step(t, a, in)
					if got := n.State == errStop && state != errStop; got != fails {
						t.Errorf("%d at %d, plus %v, minus %v: %d", state, vel, plus, minus, n.State)
					}
					if fails && (!same(n, stopped(a, 4)) || !slices.Equal(l, lost(a))) {
						t.Errorf("%+v %v\nbehind a switch at an end, from %+v", n, l, a)
					}
				}
			}
		}
	}
}

// P15.2, part 2: where several causes apply, the one that is named first; each goes ahead of power that is taken away.
func TestOrderOfCauses(t *testing.T) {
	for _, c := range []struct {
		in    api.In
		cause int
	}{
		{api.In{Cause: 3}, 3},
		{api.In{Cause: 3, Power: true}, 3},
		{api.In{Cause: 3, Power: true, Plus: true}, 3},
		{api.In{Cause: 3, Power: true, Op: true, Plus: true}, 3},
		{api.In{Power: true, Plus: true}, 2},
		{api.In{Power: true, Op: true, Plus: true}, 4},
		{api.In{Op: true, Plus: true}, 4},
		{api.In{Plus: true}, 4},
		{api.In{Plus: true, Reset: true, Op: true, Release: true}, 4},
	} {
		for _, state := range []int{standstill, stopping, discrete, continuous, synced} {
			a := inState(going(t, 2, 7, 5), state)
			c.in.Override = 100
			tryStep(t, a, c.in, stopped(a, c.cause), lost(a)...)
		}
	}
}

// P15.2, part 2: the axis only brakes, till it stands.
func TestErrorBrakes(t *testing.T) {
	a := inState(going(t, 2, 7, 5), continuous)
	in := on
	in.Cause = 1
	places := []int64{}
	for range 4 {
		a, _ = step(t, a, in)
		places = append(places, a.Gen.Pos)
	}
	if !slices.Equal(places, []int64{9, 9, 9, 9}) || a.Gen.Vel != 0 || a.Cause != 1 {
		t.Error(places, a)
	}
}

// P15.2, part 3: all that leads out of ErrorStop, and each part of it by itself; power is none of them.
func TestOutOfErrorStop(t *testing.T) {
	for bits := range 64 {
		has := func(n int) bool { return bits>>n&1 == 1 }
		a := inState(ready(t, 3, 7), errStop)
		a.Cause = 4
		in := api.In{Override: 100, Power: has(0), Reset: has(1), Op: has(2), Commands: valid()}
		if !has(3) {
			in.Cause = 2
		}
		if !has(4) {
			a.Gen.Vel = 5
		}
		if !has(5) {
			a.Smooth.Last = []int64{7, 7, 6}
		}
		want := behind(a, braked(a.Gen.Vel))
		if bits>>1 == 31 {
			want.State, want.Cause = standstill, 0
		}
		tryStep(t, a, in, want, refusals()...)
	}
}

// P15.2, part 3: causes in ErrorStop change nothing there; what it has of switches doesn't hold it.
func TestInErrorStop(t *testing.T) {
	for _, vel := range []int64{-5, 0, 5} {
		for _, in := range []api.In{
			{}, {Power: true}, {Power: true, Op: true}, {Op: true}, {Cause: 6}, {Cause: 1, Power: true, Op: true, Reset: true}, {Plus: true, Minus: true}, {Release: true}, {Reset: true}, {Reset: true, Power: true},
		} {
			a := inState(going(t, 2, 7, vel), errStop)
			a.Cause, in.Override = 3, 100
			tryStep(t, a, in, behind(a, braked(vel)))
		}
	}
	a := inState(ready(t, 2, 7), errStop)
	want := a
	want.State, want.Cause = standstill, 0
	tryStep(t, a, api.In{Reset: true, Op: true, Plus: true, Minus: true, Home: true, Override: 100}, want)
}

// P15.2, part 3: each kind of command is refused in the cycle of a reset, and taken in the next one.
func TestFreshBehindReset(t *testing.T) {
	for _, d := range valid() {
		in := with(d)
		in.Reset = true
		a := inState(ready(t, 1, 7), errStop)
		a = tryReports(t, a, in, told(refused, d.ID)...)
		if a.State != standstill {
			t.Error(a)
		}
		if _, l := step(t, a, in); len(l) == 0 || l[0] != (api.Report{ID: d.ID, What: active}) {
			t.Error(d, l)
		}
	}
}

// P15.2, part 4: power that is taken away, in each state, with what is under way and waits.
func TestPowerOff(t *testing.T) {
	for _, window := range []int{1, 4} {
		for _, a := range rightAxes(t, window) {
			if a.State == disabled || a.State == errStop {
				continue
			}
			a.Offset, a.Start, a.Master = 9, 8, 7
			if window > 1 {
				a.Smooth.Last = []int64{7, 6, 4, 9}
			}
			want := a
			want.State, want.Line = disabled, api.Line{}
			want = placed(want, 7, 0)
			for _, op := range bothTruths() {
				in := api.In{Op: op, Override: 100, Actual: 55, Reset: true, Release: true, Commands: valid()}
				tryStep(t, a, in, want, append(told(aborted, ids(a)...), refusals()...)...)
			}
		}
	}
}

// P15.2, parts 4 and 6: without power, or a drive that follows, a Disabled axis stays as it is.
func TestStaysDisabled(t *testing.T) {
	for _, in := range []api.In{{}, {Power: true}, {Op: true}, {Power: true, Cause: 1}, {Op: true, Reset: true, Release: true, Home: true}} {
		in.Override, in.Actual, in.Commands, in.Plus = 100, 99, valid(), true
		a := inState(ready(t, 3, 7), disabled)
		tryStep(t, a, in, a, refusals()...)
	}
	// One that is handed in with a speed doesn't go; its window comes to rest.
	a := inState(going(t, 3, 7, 5), disabled)
	a.Smooth.Last = []int64{7, 5, 4}
	want := a
	want.Smooth.Last = []int64{7, 7, 5}
	tryStep(t, a, api.In{Override: 100}, want)
}

// power is one case in which an axis is switched on.
type power struct {
	homed          bool
	offset, actual int64
	stays          bool // Disabled
	isHomed        bool
	pos, isOffset  int64
}

// switched are the cases in which an axis of small limits is switched on.
func switched() []power {
	return []power{
		{false, 0, 0, false, false, 0, 0}, {true, 0, 0, false, true, 0, 0},
		{false, 0, 57, false, false, 57, 0}, {true, 0, 57, false, true, 57, 0},
		{false, 20, 57, false, false, 37, 20}, {true, 20, 57, false, true, 37, 20},
		{false, -20, 57, false, false, 77, -20}, {true, -20, 57, false, true, 77, -20},
		// At the ends of the limits, and one beyond.
		{true, 0, 110, false, true, 110, 0}, {true, 0, 111, false, false, 111, 0},
		{true, 0, -100, false, true, -100, 0}, {true, 0, -101, false, false, -101, 0},
		{true, 5, 115, false, true, 110, 5}, {true, 5, 116, false, false, 111, 5},
		{true, 5, -95, false, true, -100, 5}, {true, 5, -96, false, false, -101, 5},
		{false, 0, 111, false, false, 111, 0}, {false, 5, -96, false, false, -101, 5},
		// At the ends of all places, and one beyond.
		{false, 0, maxPlace, false, false, maxPlace, 0}, {false, 0, maxPlace + 1, false, false, maxPlace, 1},
		{false, 0, -maxPlace, false, false, -maxPlace, 0}, {false, 0, -maxPlace - 1, false, false, -maxPlace, -1},
		{true, 0, maxPlace, false, false, maxPlace, 0}, {true, 0, maxPlace + 1, false, false, maxPlace, 1},
		{true, 0, -maxPlace, false, false, -maxPlace, 0}, {true, 0, -maxPlace - 1, false, false, -maxPlace, -1},
		{false, 30, maxPlace + 30, false, false, maxPlace, 30}, {false, 30, maxPlace + 37, false, false, maxPlace, 37},
		{true, -30, -maxPlace - 37, false, false, -maxPlace, -37},
		// At the ends of an Offset, and one beyond.
		{false, 0, maxOffset + maxPlace, false, false, maxPlace, maxOffset}, {false, 0, maxOffset + maxPlace + 1, true, false, 0, 0},
		{false, 0, -maxOffset - maxPlace, false, false, -maxPlace, -maxOffset}, {false, 0, -maxOffset - maxPlace - 1, true, false, 0, 0},
		{true, 0, maxOffset + maxPlace, false, false, maxPlace, maxOffset}, {true, 0, maxOffset + maxPlace + 1, true, true, 0, 0},
		{true, 0, -maxOffset - maxPlace, false, false, -maxPlace, -maxOffset}, {true, 0, -maxOffset - maxPlace - 1, true, true, 0, 0},
		{true, maxOffset, maxOffset + 3, false, true, 3, maxOffset}, {true, -maxOffset, -maxOffset + 3, false, true, 3, -maxOffset},
		{false, maxOffset, maxOffset + maxPlace, false, false, maxPlace, maxOffset}, {false, maxOffset, maxOffset + maxPlace + 1, true, false, 0, maxOffset},
		{false, maxOffset, -maxOffset - maxPlace, false, false, -maxPlace, -maxOffset}, {false, -maxOffset, maxOffset + maxPlace, false, false, maxPlace, maxOffset},
		{false, -maxOffset, -maxOffset - maxPlace - 1, true, false, 0, -maxOffset},
		// Without room.
		{false, -1, great, true, false, 0, -1}, {false, 1, least, true, false, 0, 1}, {true, -1, great, true, true, 0, -1}, {true, 1, least, true, true, 0, 1},
		{false, -maxOffset, great, true, false, 0, -maxOffset}, {false, maxOffset, least, true, false, 0, maxOffset},
		{false, -maxOffset, great - maxOffset, true, false, 0, -maxOffset}, {false, 0, great, true, false, 0, 0}, {false, 0, least, true, false, 0, 0},
		{true, 1, great, true, true, 0, 1}, {true, -1, least, true, true, 0, -1},
	}
}

// P15.2, part 4: power that comes, with each case of its place and Offset; and the commands of that cycle are refused.
func TestPowerOn(t *testing.T) {
	for _, c := range switched() {
		for _, window := range []int{1, 3, 16} {
			a := inState(ready(t, window, 7), disabled)
			a.Homed, a.Offset, a.Cause, a.Start = c.homed, c.offset, 3, 12
			want := a
			if !c.stays {
				want = placed(want, c.pos, 0)
				want.State, want.Homed, want.Offset = standstill, c.isHomed, c.isOffset
			}
			in := with(valid()...)
			in.Actual = c.actual
			n := tryStep(t, a, in, want, refusals()...)
			if out := Out(n); !c.stays && out != int64(window)*c.actual {
				t.Errorf("%+v: its drive is told %d", c, out)
			}
		}
	}
}

// P15.2, part 4: a homed axis whose limits are all places, at their ends and one beyond.
func TestPowerOnFreeLimits(t *testing.T) {
	for _, c := range []power{
		{true, 0, maxPlace, false, true, maxPlace, 0}, {true, 0, maxPlace + 1, false, false, maxPlace, 1},
		{true, 0, -maxPlace, false, true, -maxPlace, 0}, {true, 0, -maxPlace - 1, false, false, -maxPlace, -1},
		{true, 9, maxPlace + 9, false, true, maxPlace, 9}, {true, 9, maxPlace + 10, false, false, maxPlace, 10},
		{true, 9, -maxPlace + 9, false, true, -maxPlace, 9}, {true, 9, -maxPlace + 8, false, false, -maxPlace, 8},
	} {
		a := inState(ready(t, 2, 7), disabled)
		a.Limits.Lo, a.Limits.Hi = -maxPlace, maxPlace
		a.Offset = c.offset
		want := placed(a, c.pos, 0)
		want.State, want.Homed, want.Offset = standstill, c.isHomed, c.isOffset
		in := on
		in.Actual = c.actual
		tryStep(t, a, in, want)
	}
}

// P15.2, part 4: whatever it had of a speed, and in its window, it stands still where it is switched on.
func TestPowerOnStands(t *testing.T) {
	a := inState(going(t, 3, 7, 5), disabled)
	a.Smooth.Last = []int64{7, 5, 4}
	want := placed(a, 31, 0)
	want.State = standstill
	in := on
	in.Actual = 31
	tryStep(t, a, in, want)
}

// P15.2, part 4: each kind of command is refused in the cycle in which it is switched on, and taken in the next one.
func TestFreshBehindPower(t *testing.T) {
	for _, d := range valid() {
		in := with(d)
		in.Actual = 7
		a := tryReports(t, inState(ready(t, 1, 7), disabled), in, told(refused, d.ID)...)
		if _, l := step(t, a, in); len(l) == 0 || l[0] != (api.Report{ID: d.ID, What: active}) {
			t.Error(d, l)
		}
	}
}

// P15.2: off and on again, an axis that is homed stays so, where its drive is.
func TestOffAndOn(t *testing.T) {
	a := inState(going(t, 2, 7, 5), continuous)
	a.Offset = 1000
	a = tryReports(t, a, api.In{Override: 100}, told(aborted, 1)...)
	in := on
	in.Actual = 1030
	a = tryReports(t, a, in)
	if a.State != standstill || !a.Homed || a.Gen != (api.Gen{Pos: 30}) || Out(a) != 2060 {
		t.Error(a)
	}
}
