package axis

import (
	"math"
	"slices"
	"testing"

	"servitor/api"
)

// tryRefused asks that a command is refused, and that the cycle is as it were without it.
func tryRefused(t *testing.T, a api.Axis, d api.Command) {
	t.Helper()
	want, l := step(t, a, on)
	tryStep(t, a, with(d), want, append(told(refused, d.ID), l...)...)
}

// tryTaken asks that a command is not refused.
func tryTaken(t *testing.T, a api.Axis, d api.Command) api.Axis {
	t.Helper()
	if !Right(a) {
		t.Fatalf("not right: %+v", a)
	}
	n, l := step(t, a, with(d))
	if slices.Contains(l, api.Report{ID: d.ID, What: refused}) {
		t.Errorf("%+v is refused by %+v", d, a)
	}
	return n
}

// tryCommand asks whether a command is taken.
func tryCommand(t *testing.T, a api.Axis, d api.Command, takes bool) {
	t.Helper()
	if takes {
		tryTaken(t, a, d)
	} else {
		tryRefused(t, a, d)
	}
}

// kinds are those of commands, and numbers that are none.
func kinds() []int {
	l := []int{math.MinInt, -256, -8, -7, -1, 9, 10, 16, 257, 264, 1<<32 + 1, math.MaxInt}
	for kind := range 9 {
		l = append(l, kind)
	}
	return l
}

// P15.2, part 5: which kinds each state takes.
func TestKindsOfEachState(t *testing.T) {
	for _, state := range states() {
		for _, vel := range []int64{0, 5} {
			a := inState(going(t, 2, 7, vel), state)
			for _, kind := range kinds() {
				takes := false
				switch state {
				case standstill:
					takes = kind >= 1 && kind <= 8
				case discrete, continuous, synced:
					takes = kind >= 1 && kind <= 8 && kind != api.CmdHome
				case homing:
					takes = kind == api.CmdStop
				}
				tryCommand(t, a, api.Command{ID: 9, Kind: kind, Target: 20, Speed: 3, Num: 1, Den: 1}, takes)
			}
		}
	}
}

// ways in which an axis takes commands: standing, in a move, in a halt, at a speed, in a gear; and whether a move may wait there.
func waysToWait(t *testing.T) ([]api.Axis, []bool) {
	a := going(t, 2, 7, 5)
	return []api.Axis{
		ready(t, 2, 7), under(a, discrete, move(1, 50, 5, 0)), under(a, discrete, move(1, 50, 5, 0), move(2, 60, 5, 4)), under(a, discrete, move(1, 50, 5, 3)),
		under(a, discrete, api.Command{ID: 1, Kind: api.CmdHalt}), inState(a, continuous), inState(a, synced),
	}, []bool{true, true, true, true, false, false, false}
}

// P15.2, part 5: the modes of each kind, by what is under way.
func TestModes(t *testing.T) {
	axes, mayWait := waysToWait(t)
	for i, a := range axes {
		for kind := 1; kind <= 8; kind++ {
			for _, mode := range []int{math.MinInt, -256, -1, 0, 1, 2, 3, 4, 5, 6, 7, 8, 256, 257, 1<<32 + 1, math.MaxInt} {
				waits := mode >= 1 && mode <= 5 && kind <= 3 && mayWait[i]
				takes := (mode == 0 || waits) && (kind != api.CmdHome || a.State == standstill)
				tryCommand(t, a, api.Command{ID: 9, Kind: kind, Target: 20, Speed: 3, Mode: mode, Num: 1, Den: 1}, takes)
			}
		}
	}
}

// P15.2, part 5: an absolute place is taken of a homed axis alone; a way isn't.
func TestHomedOrNot(t *testing.T) {
	axes, _ := waysToWait(t)
	for _, a := range axes[:5] {
		for kind := 1; kind <= 3; kind++ {
			d := api.Command{ID: 9, Kind: kind, Target: 20, Speed: 3}
			a.Homed = true
			tryTaken(t, a, d)
			a.Homed = false
			tryCommand(t, a, d, kind != api.CmdAbs)
		}
	}
}

// P15.2, part 5: the speeds of each kind; of those that have none any number.
func TestSpeeds(t *testing.T) {
	axes, _ := waysToWait(t)
	for _, a := range axes {
		for _, v := range []int64{least, least + 1, -maxSpeed, -6, -5, -4, -1, 0, 1, 2, 4, 5, 6, 7, maxSpeed, 1 << 32, great} {
			for kind := 1; kind <= 8; kind++ {
				takes := kind != api.CmdHome || a.State == standstill
				if kind <= 3 {
					takes = v >= 1 && v <= 5
				} else if kind == api.CmdSpeed {
					takes = v >= 1 && v <= 5 || v >= -5 && v <= -1
				}
				tryCommand(t, a, api.Command{ID: 9, Kind: kind, Target: 20, Speed: v, Num: 1, Den: 1}, takes)
			}
		}
	}
	a := ready(t, 1, 0)
	a.Limits = api.Limits{Vel: maxSpeed, Acc: 1, Dec: 1, Lo: -maxPlace, Hi: maxPlace}
	for kind := 1; kind <= 4; kind++ {
		tryTaken(t, a, api.Command{ID: 9, Kind: kind, Target: 20, Speed: maxSpeed})
		tryRefused(t, a, api.Command{ID: 9, Kind: kind, Target: 20, Speed: maxSpeed + 1})
		tryCommand(t, a, api.Command{ID: 9, Kind: kind, Target: 20, Speed: -maxSpeed}, kind == 4)
		tryRefused(t, a, api.Command{ID: 9, Kind: kind, Target: 20, Speed: -maxSpeed - 1})
	}
}

// P15.2, part 5: Den of a gear; of those that have none any number.
func TestRatios(t *testing.T) {
	axes, _ := waysToWait(t)
	for _, a := range axes {
		for _, n := range []int64{least, -2, -1, 0, 1, 2, great} {
			for kind := 1; kind <= 8; kind++ {
				takes := kind != api.CmdHome || a.State == standstill
				tryCommand(t, a, api.Command{ID: 9, Kind: kind, Target: 20, Speed: 3, Num: n, Den: n}, takes && (kind != api.CmdGear || n >= 1))
				tryCommand(t, a, api.Command{ID: 9, Kind: kind, Target: 20, Speed: 3, Num: n, Den: 1}, takes)
			}
		}
	}
}

// P15.2, part 5: a fifth one doesn't wait; but it aborts.
func TestFullLine(t *testing.T) {
	row := []api.Command{move(2, 30, 3, 1), move(3, 40, 3, 2), move(4, 50, 3, 3), move(5, 60, 3, 4)}
	for n := range 5 {
		a := under(going(t, 2, 7, 5), discrete, move(1, 20, 3, 0), row[:n]...)
		for mode := 1; mode <= 5; mode++ {
			for kind := 1; kind <= 3; kind++ {
				tryCommand(t, a, api.Command{ID: 9, Kind: kind, Target: 20, Speed: 3, Mode: mode}, n < 4)
				tryTaken(t, a, api.Command{ID: 9, Kind: kind, Target: 20, Speed: 3})
			}
		}
	}
}

// P15.2, part 5: the places to which moves go, by what is under way, and by their modes.
func TestPlaces(t *testing.T) {
	a := going(t, 2, 7, 5)
	standing, halting := ready(t, 2, 7), under(a, discrete, api.Command{ID: 1, Kind: api.CmdHalt, Target: 900})
	moving, waiting := under(a, discrete, move(1, 50, 5, 0)), under(a, discrete, move(1, 50, 5, 0), move(2, 60, 5, 1), move(3, -20, 5, 2))
	speed, gear := under(a, continuous, api.Command{ID: 1, Kind: api.CmdSpeed, Speed: 5, Target: 900}), under(a, synced, api.Command{ID: 1, Kind: api.CmdGear, Target: 900, Den: 1})
	for _, c := range []struct {
		a             api.Axis
		mode          int
		abs, rel, add int64
	}{
		{standing, 0, 20, 27, 27}, {standing, 1, 20, 27, 27}, {standing, 2, 20, 27, 27}, {standing, 5, 20, 27, 27},
		{moving, 0, 20, 27, 70}, {moving, 1, 20, 70, 70}, {moving, 2, 20, 70, 70}, {moving, 3, 20, 70, 70}, {moving, 4, 20, 70, 70}, {moving, 5, 20, 70, 70},
		{waiting, 0, 20, 27, 70}, {waiting, 1, 20, 0, 0}, {waiting, 2, 20, 0, 0}, {waiting, 5, 20, 0, 0},
		{halting, 0, 20, 27, 27}, {speed, 0, 20, 27, 27}, {gear, 0, 20, 27, 27},
	} {
		for kind, place := range map[int]int64{1: c.abs, 2: c.rel, 3: c.add} {
			d := api.Command{ID: 9, Kind: kind, Target: 20, Speed: 3, Mode: c.mode, Num: 66, Den: 77}
			n := tryTaken(t, c.a, d)
			d.Kind, d.Target = api.CmdAbs, place
			if kept := slices.Concat(n.Line.Now, n.Line.Wait); len(kept) == 0 || kept[len(kept)-1] != d {
				t.Errorf("kind %d, mode %d: kept are %+v, not %+v behind them", kind, c.mode, kept, d)
			}
		}
	}
}

// P15.2, part 5: places at the bounds and one beyond, from each base, homed and not.
func TestPlacesAtBounds(t *testing.T) {
	a := going(t, 2, 7, 5)
	moving, waiting := under(a, discrete, move(1, 50, 5, 0)), under(a, discrete, move(1, 50, 5, 0), move(2, 60, 5, 1), move(3, -20, 5, 2))
	speed := inState(a, continuous)
	for _, c := range []struct {
		a          api.Axis
		kind, mode int
		base       int64
	}{
		{ready(t, 2, 7), 1, 0, 0}, {ready(t, 2, 7), 2, 0, 7}, {ready(t, 2, 7), 3, 0, 7}, {ready(t, 2, 7), 2, 1, 7}, {ready(t, 2, 7), 3, 1, 7},
		{moving, 1, 0, 0}, {moving, 2, 0, 7}, {moving, 3, 0, 50}, {moving, 1, 1, 0}, {moving, 2, 1, 50}, {moving, 3, 1, 50},
		{waiting, 1, 0, 0}, {waiting, 2, 0, 7}, {waiting, 3, 0, 50}, {waiting, 1, 1, 0}, {waiting, 2, 1, -20}, {waiting, 3, 1, -20},
		{speed, 1, 0, 0}, {speed, 2, 0, 7}, {speed, 3, 0, 7},
	} {
		for _, homed := range bothTruths() {
			lo, hi := int64(-100), int64(110)
			if !homed {
				lo, hi = -maxPlace, maxPlace
			}
			c.a.Homed = homed
			takes := homed || c.kind != 1
			for _, n := range []int64{lo - c.base, hi - c.base} {
				tryCommand(t, c.a, api.Command{ID: 9, Kind: c.kind, Target: n, Speed: 3, Mode: c.mode}, takes)
			}
			for _, n := range []int64{lo - c.base - 1, hi - c.base + 1, -2 * maxPlace, 2 * maxPlace, least, least + 1, least + 100, great - 100, great - 1, great} {
				tryRefused(t, c.a, api.Command{ID: 9, Kind: c.kind, Target: n, Speed: 3, Mode: c.mode})
			}
		}
	}
}

// P15.2, part 5: a place has no room.
func TestPlacesWithoutRoom(t *testing.T) {
	for _, pos := range []int64{maxPlace, -maxPlace} {
		a := placed(ready(t, 2, 7), pos, 0)
		a.Homed = false
		for _, n := range []int64{great, great - maxPlace, great - maxPlace + 1, least, least + maxPlace, least + maxPlace - 1} {
			for kind := 1; kind <= 3; kind++ {
				tryRefused(t, a, api.Command{ID: 9, Kind: kind, Target: n, Speed: 3})
			}
		}
	}
}

// P15.2, part 5: a way whose sum is where the axis may be is taken, however great it is itself.
func TestGreatWays(t *testing.T) {
	a := placed(ready(t, 2, 7), -maxPlace, 0)
	a.Homed = false
	for kind := 2; kind <= 3; kind++ {
		n := tryTaken(t, a, api.Command{ID: 9, Kind: kind, Target: 2 * maxPlace, Speed: 3})
		if n.Line.Now[0].Target != maxPlace {
			t.Error(n)
		}
		tryRefused(t, a, api.Command{ID: 9, Kind: kind, Target: 2*maxPlace + 1, Speed: 3})
		tryRefused(t, a, api.Command{ID: 9, Kind: kind, Target: -1, Speed: 3})
	}
}

// P15.2, part 5: what is told, and where the state goes, as each kind begins, from each state that takes it.
func TestBegins(t *testing.T) {
	leads := map[int]int{1: discrete, 2: discrete, 3: discrete, 4: continuous, 5: discrete, 6: stopping, 7: homing, 8: synced}
	for _, state := range []int{standstill, homing, discrete, continuous, synced} {
		for kind, to := range leads {
			a := inState(going(t, 2, 7, 5), state)
			if state == homing && kind != 6 || state != standstill && kind == 7 {
				continue
			}
			d := api.Command{ID: 9, Kind: kind, Target: 60, Speed: 3, Num: 3, Den: 4}
			n := tryReports(t, a, with(d), append(told(aborted, ids(a)...), told(active, 9)...)...)
			if n.State != to || !slices.Equal(ids(n), []int{9}) {
				t.Errorf("from %d, kind %d: %+v", state, kind, n)
			}
			if kind > 3 && n.Line.Now[0] != d {
				t.Errorf("kept is %+v, not %+v", n.Line.Now[0], d)
			}
		}
	}
}

// P15.2, part 5: a command that waits is not active, and aborts none.
func TestWaits(t *testing.T) {
	axes, _ := waysToWait(t)
	for mode := 1; mode <= 5; mode++ {
		n := tryReports(t, axes[1], with(move(9, 60, 3, mode)))
		if !slices.Equal(ids(n), []int{1, 9}) || n.State != discrete {
			t.Error(n)
		}
		n = tryReports(t, axes[2], with(move(9, 60, 3, mode)))
		if !slices.Equal(ids(n), []int{1, 2, 9}) || n.State != discrete {
			t.Error(n)
		}
		// Nothing is under way: it begins.
		n = tryReports(t, axes[0], with(move(9, 60, 3, mode)), told(active, 9)...)
		if !slices.Equal(n.Line.Now, []api.Command{move(9, 60, 3, mode)}) || n.State != discrete {
			t.Error(n)
		}
	}
}

// P15.2, part 5: a search is new, of the axis' own speeds, and the axis isn't homed any more.
func TestHomeBegins(t *testing.T) {
	for _, s := range rightSpeeds() {
		a := ready(t, 2, 7)
		a.Fast, a.Creep = s.fast, s.creep
		a.Home = api.Home{Phase: api.HomeDone, Fast: -s.fast, Creep: -s.creep, Turned: true}
		n := tryReports(t, a, with(api.Command{ID: 9, Kind: api.CmdHome}), told(active, 9)...)
		if n.Homed || n.Home != (api.Home{Phase: 0, Fast: s.fast, Creep: s.creep}) || n.Gen.Vel != max(-2, min(s.fast, 2)) {
			t.Errorf("%+v", n)
		}
	}
	// The home switch shows in the same cycle.
	in := with(api.Command{ID: 9, Kind: api.CmdHome})
	in.Home = true
	if n := tryReports(t, ready(t, 2, 7), in, told(active, 9)...); n.Home.Phase != api.HomeStop || n.Gen.Vel != 0 {
		t.Errorf("%+v", n)
	}
	// Elsewhere it stays homed.
	for kind := 1; kind <= 8; kind++ {
		n := tryTaken(t, ready(t, 2, 7), api.Command{ID: 9, Kind: kind, Target: 20, Speed: 3, Num: 1, Den: 1})
		if n.Homed != (kind != 7) {
			t.Errorf("kind %d: %+v", kind, n)
		}
	}
}

// P15.2, part 5: a gear keeps where each was as it began, and that it is in step; no other command does.
func TestGearBegins(t *testing.T) {
	for kind := 1; kind <= 8; kind++ {
		for _, master := range []int64{least, -5, 0, 1234, great} {
			a := going(t, 2, 7, 5)
			a.Start, a.Master, a.InStep = 70, 80, kind == 8
			in := with(api.Command{ID: 9, Kind: kind, Target: 60, Speed: 3, Num: 3, Den: 4})
			in.Master = master
			n, _ := step(t, a, in)
			if kind == 8 && (n.Start != 7 || n.Master != master) || kind != 8 && (n.Start != 70 || n.Master != 80 || n.InStep) {
				t.Errorf("kind %d: %+v", kind, n)
			}
		}
	}
	// One that is aborted in the cycle in which it began was in step.
	b := ready(t, 2, 7)
	row := with(api.Command{ID: 9, Kind: api.CmdGear, Num: 3, Den: 4}, api.Command{ID: 10, Kind: api.CmdHalt})
	row.Master = 55
	want := b
	want.Start, want.Master, want.InStep = 7, 55, true
	tryStep(t, b, row, want, api.Report{ID: 9, What: active}, api.Report{ID: 9, What: aborted}, api.Report{ID: 10, What: active}, api.Report{ID: 10, What: done})
	// A gear that begins anew, in place of another one.
	a := inState(going(t, 2, 7, 5), synced)
	a.Start, a.Master = 70, 80
	in := with(api.Command{ID: 9, Kind: api.CmdGear, Num: 3, Den: 4})
	in.Master = 55
	if n := tryReports(t, a, in, append(told(aborted, 1), told(active, 9)...)...); n.Start != 7 || n.Master != 55 {
		t.Error(n)
	}
}

// P15.2, part 5: commands of one cycle, each by what those ahead of it made of the axis.
func TestInOrder(t *testing.T) {
	home, stop, halt := api.Command{ID: 2, Kind: api.CmdHome}, api.Command{ID: 3, Kind: api.CmdStop}, api.Command{ID: 4, Kind: api.CmdHalt}
	speed, gear := api.Command{ID: 5, Kind: api.CmdSpeed, Speed: 5}, api.Command{ID: 6, Kind: api.CmdGear, Num: 1, Den: 1}
	for _, c := range []struct {
		come  []api.Command
		tells []api.Report
		state int
	}{
		{[]api.Command{home, stop}, []api.Report{{ID: 2, What: active}, {ID: 2, What: aborted}, {ID: 3, What: active}, {ID: 3, What: done}}, stopping},
		{[]api.Command{home, home}, []api.Report{{ID: 2, What: active}, {ID: 2, What: refused}}, homing},
		{[]api.Command{home, move(1, 20, 3, 0), speed}, []api.Report{{ID: 2, What: active}, {ID: 1, What: refused}, {ID: 5, What: refused}}, homing},
		{[]api.Command{stop, stop, speed, home}, []api.Report{{ID: 3, What: active}, {ID: 3, What: refused}, {ID: 5, What: refused}, {ID: 2, What: refused}, {ID: 3, What: done}}, stopping},
		{[]api.Command{speed, move(1, 20, 3, 1), gear}, []api.Report{{ID: 5, What: active}, {ID: 1, What: refused}, {ID: 5, What: aborted}, {ID: 6, What: active}}, synced},
		{[]api.Command{speed, move(1, 20, 3, 0)}, []api.Report{{ID: 5, What: active}, {ID: 5, What: aborted}, {ID: 1, What: active}}, discrete},
		{[]api.Command{speed, home}, []api.Report{{ID: 5, What: active}, {ID: 2, What: refused}}, continuous},
		{[]api.Command{halt, move(1, 20, 3, 1)}, []api.Report{{ID: 4, What: active}, {ID: 1, What: refused}, {ID: 4, What: done}}, standstill},
		{[]api.Command{move(1, 20, 3, 1), move(7, 30, 3, 1), move(8, 30, 6, 1), speed}, []api.Report{{ID: 1, What: active}, {ID: 8, What: refused}, {ID: 1, What: aborted}, {ID: 7, What: aborted}, {ID: 5, What: active}}, continuous},
		{[]api.Command{gear, speed, gear, halt}, []api.Report{{ID: 6, What: active}, {ID: 6, What: aborted}, {ID: 5, What: active}, {ID: 5, What: aborted}, {ID: 6, What: active}, {ID: 6, What: aborted}, {ID: 4, What: active}, {ID: 4, What: done}}, standstill},
	} {
		n := tryReports(t, ready(t, 1, 7), with(c.come...), c.tells...)
		if n.State != c.state {
			t.Errorf("behind %v: %+v", c.come, n)
		}
	}
	// A row of ways, each from the end of the one ahead.
	n, _ := step(t, ready(t, 1, 7), with(
		api.Command{ID: 1, Kind: api.CmdRel, Target: 20, Speed: 3}, api.Command{ID: 2, Kind: api.CmdRel, Target: -50, Speed: 3, Mode: 1},
		api.Command{ID: 3, Kind: api.CmdAdd, Target: 4, Speed: 3, Mode: 1}, api.Command{ID: 4, Kind: api.CmdRel, Target: -78, Speed: 3, Mode: 1}, move(5, 33, 3, 1), move(6, 34, 3, 1),
	))
	if !slices.Equal(slices.Concat(n.Line.Now, n.Line.Wait), []api.Command{move(1, 27, 3, 0), move(2, -23, 3, 1), move(3, -19, 3, 1), move(4, -97, 3, 1), move(5, 33, 3, 1)}) {
		t.Error(n.Line)
	}
}

// P15.2, part 5: an ID is any number, and told as it is.
func TestIDs(t *testing.T) {
	for _, id := range []int{math.MinInt, -1, 0, 1, 1 << 40, math.MaxInt} {
		tryReports(t, ready(t, 1, 7), with(api.Command{ID: id, Kind: api.CmdHalt}), api.Report{ID: id, What: active}, api.Report{ID: id, What: done})
		tryReports(t, ready(t, 1, 7), with(api.Command{ID: id}), api.Report{ID: id, What: refused})
	}
}
