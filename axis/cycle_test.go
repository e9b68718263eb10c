package axis

import (
	"fmt"
	"slices"
	"testing"

	"servitor/api"
	"servitor/gear"
	"servitor/gen"
	"servitor/home"
)

// event is a report, and in which cycle it came, the first one being 1.
type event struct {
	cycle, id, what int
}

// ran is what became of some cycles.
type ran struct {
	api.Axis
	places []int64
	events []event
}

// run cycles: in the first one comes in, in the others the same but commands.
func run(t *testing.T, a api.Axis, in api.In, n int) ran {
	t.Helper()
	r := ran{Axis: a}
	for i := range n {
		next, l := step(t, r.Axis, in)
		r.Axis = next
		r.places = append(r.places, next.Gen.Pos)
		for _, report := range l {
			r.events = append(r.events, event{i + 1, report.ID, report.What})
		}
		in.Commands = nil
	}
	return r
}

// tryRun asks for the places and the events of cycles, as many as there are places.
func tryRun(t *testing.T, a api.Axis, in api.In, places []int64, events ...event) api.Axis {
	t.Helper()
	if !Right(a) {
		t.Fatalf("not right: %+v", a)
	}
	r := run(t, a, in, len(places))
	if !slices.Equal(r.places, places) {
		t.Errorf("places %v, not %v", r.places, places)
	}
	if !slices.Equal(r.events, events) {
		t.Errorf("events %v, not %v", r.events, events)
	}
	return r.Axis
}

// The chapter's example.
func TestExample(t *testing.T) {
	a, e := New(api.Limits{Vel: 5, Acc: 2, Dec: 2, Lo: -100, Hi: 100}, 1, 0, 4, 1)
	if e != api.OK {
		t.Fatal(e)
	}
	a = tryReports(t, a, on)
	a = tryRun(t, a, with(api.Command{ID: 7, Kind: api.CmdRel, Target: 20, Speed: 5}), []int64{2, 6, 11, 16, 19, 20, 20, 20}, event{1, 7, active}, event{7, 7, done})
	if a.State != standstill || a.Gen != (api.Gen{Pos: 20}) || Out(a) != 20 || len(ids(a)) != 0 {
		t.Error(a)
	}
}

// P15.2, parts 6 and 7: a move, upwards and downwards, with each length of window: it is done once that rests.
func TestMove(t *testing.T) {
	for window := 1; window <= 16; window++ {
		for _, side := range []int64{1, -1} {
			places := []int64{}
			for _, n := range []int64{2, 6, 11, 16, 19} {
				places = append(places, side*n)
			}
			// It comes to 20 in cycle 6, by a speed of 1; in cycle 7 it stands.
			when := max(7, 6+window-1)
			for len(places) < when+3 {
				places = append(places, side*20)
			}
			a := tryRun(t, ready(t, window, 0), with(move(3, side*20, 5, 0)), places, event{1, 3, active}, event{when, 3, done})
			if a.State != standstill || Out(a) != int64(window)*side*20 || len(ids(a)) != 0 {
				t.Errorf("window %d: %+v", window, a)
			}
		}
	}
}

// P15.2, part 7: in which cycle it is still Discrete, in which not any more.
func TestMoveEndsItsState(t *testing.T) {
	for _, window := range []int{1, 4} {
		a := ready(t, window, 0)
		in := with(move(3, 20, 5, 0))
		when := max(7, 6+window-1)
		for i := range when {
			a, _ = step(t, a, in)
			in.Commands = nil
			want := discrete
			if i+1 == when {
				want = standstill
			}
			if a.State != want {
				t.Errorf("window %d, cycle %d: %d", window, i+1, a.State)
			}
		}
	}
}

// P15.2, part 7: a move to where it is: done at once, if it stands there, and its window rests.
func TestMoveNowhere(t *testing.T) {
	for _, kind := range []int{1, 2, 3} {
		d := api.Command{ID: 3, Kind: kind, Speed: 5}
		a := tryRun(t, ready(t, 3, 0), with(d), []int64{0, 0}, event{1, 3, active}, event{1, 3, done})
		if a.State != standstill {
			t.Error(a)
		}
		b := ready(t, 3, 0)
		b.Smooth.Last = []int64{0, 0, 1}
		tryRun(t, b, with(d), []int64{0, 0}, event{1, 3, active}, event{1, 3, done})
		b.Smooth.Last = []int64{0, 1, 2}
		tryRun(t, b, with(d), []int64{0, 0}, event{1, 3, active}, event{2, 3, done})
		// It goes by, and comes back.
		tryRun(t, going(t, 1, 0, 5), with(d), []int64{2, 2, 0, 0, 0, 0}, event{1, 3, active}, event{4, 3, done})
	}
}

// P15.2, part 7: it is at its place, with a speed, or stands elsewhere: it isn't done.
func TestNotLanded(t *testing.T) {
	a := under(going(t, 1, 15, 5), discrete, move(1, 20, 5, 0))
	tryRun(t, a, on, []int64{19, 20, 20}, event{3, 1, done})
	// It comes to its place by a speed that it can't lose, goes by, and comes back.
	a = under(going(t, 1, 10, 5), discrete, move(1, 12, 5, 0))
	tryRun(t, a, on, []int64{12, 12}, event{2, 1, done})
	a = under(going(t, 1, 10, 7), discrete, move(1, 14, 5, 0))
	tryRun(t, a, on, []int64{14, 15, 15, 14, 14}, event{5, 1, done})
	// Standing elsewhere, by Override 0.
	in := on
	in.Override = 0
	tryRun(t, under(ready(t, 1, 19), discrete, move(1, 20, 5, 0)), in, []int64{19, 19, 19})
}

// P15.2, part 6: moves by Override, rounded down.
func TestMoveByOverride(t *testing.T) {
	for _, c := range []struct {
		override int
		speed    int64
		v        int64
	}{
		{100, 5, 5}, {100, 3, 3}, {100, 1, 1}, {99, 5, 4}, {99, 1, 0}, {80, 5, 4}, {79, 5, 3}, {60, 5, 3}, {59, 5, 2}, {50, 5, 2}, {50, 4, 2}, {50, 2, 1}, {50, 1, 0},
		{40, 5, 2}, {39, 5, 1}, {20, 5, 1}, {19, 5, 0}, {1, 5, 0}, {0, 5, 0}, {0, 1, 0}, {101, 5, 5}, {200, 3, 3}, {-1, 5, 0}, {-100, 5, 0},
	} {
		for _, side := range []int64{1, -1} {
			in := with(move(1, 90*side, c.speed, 0))
			in.Override = c.override
			r := run(t, ready(t, 1, 0), in, 10)
			if r.Gen.Vel != side*c.v {
				t.Errorf("%+v: %+v", c, r.Gen)
			}
		}
	}
	// It changes under way: the speed is less, and then none; it goes on, and lands.
	a := ready(t, 1, 0)
	a = tryRun(t, a, with(move(1, 40, 5, 0)), []int64{2, 6, 11}, event{1, 1, active})
	in := on
	in.Override = 50
	a = tryRun(t, a, in, []int64{13, 15})
	in.Override = 0
	a = tryRun(t, a, in, []int64{15, 15, 15})
	tryRun(t, a, on, []int64{17, 21, 26, 31, 36, 39, 40, 40}, event{8, 1, done})
}

// P15.2, part 6: a speed, of both signs, by Override, towards 0; it has no end.
func TestSpeed(t *testing.T) {
	for _, c := range []struct {
		override  int
		speed, is int64
	}{
		{100, 5, 5}, {100, -5, -5}, {100, 1, 1}, {100, -1, -1}, {99, 5, 4}, {99, -5, -4}, {50, 5, 2}, {50, -5, -2}, {50, 3, 1}, {50, -3, -1}, {50, 1, 0}, {50, -1, 0},
		{20, 5, 1}, {20, -5, -1}, {19, 5, 0}, {19, -5, 0}, {1, -5, 0}, {0, 5, 0}, {0, -5, 0}, {150, 5, 5}, {-50, -5, 0},
	} {
		in := with(api.Command{ID: 1, Kind: api.CmdSpeed, Speed: c.speed})
		in.Override = c.override
		r := run(t, ready(t, 2, 0), in, 12)
		if r.Gen.Vel != c.is || r.State != continuous || !slices.Equal(r.events, []event{{1, 1, active}}) {
			t.Errorf("%+v: %+v", c, r)
		}
	}
	tryRun(t, ready(t, 1, 0), with(api.Command{ID: 1, Kind: api.CmdSpeed, Speed: 5}), []int64{2, 6, 11, 16, 21}, event{1, 1, active})
	tryRun(t, going(t, 1, 0, 5), with(api.Command{ID: 1, Kind: api.CmdSpeed, Speed: -5}), []int64{2, 2, 0, -4, -9, -14}, event{1, 1, active})
}

// P15.2, part 6: the bounds hold it, homed; not homed it goes on.
func TestSpeedWithinBounds(t *testing.T) {
	for _, side := range []int64{1, -1} {
		end := int64(110)
		if side < 0 {
			end = -100
		}
		a := under(going(t, 1, end-20*side, 5*side), continuous, api.Command{ID: 1, Kind: api.CmdSpeed, Speed: 5 * side})
		r := run(t, a, on, 20)
		if r.Gen != (api.Gen{Pos: end}) || r.State != continuous || len(r.events) != 0 {
			t.Errorf("%+v", r)
		}
		a.Homed = false
		if r = run(t, a, on, 20); r.Gen != (api.Gen{Pos: end + 80*side, Vel: 5 * side}) {
			t.Errorf("%+v", r)
		}
	}
}

// P15.2, parts 6 and 7: a halt, from standing and from going, with windows of one cycle and of several.
func TestHalt(t *testing.T) {
	for window := 1; window <= 16; window++ {
		for _, c := range []struct {
			vel    int64
			places []int64
			from   int
		}{{0, []int64{0}, 1}, {5, []int64{2, 2}, 2}, {-5, []int64{-2, -2}, 2}, {7, []int64{4, 5, 5}, 3}} {
			// It comes to its last place in the cycle ahead of the first one in which it stands: its window is full of it window cycles later, less 1.
			when := max(c.from, c.from+window-2)
			if c.vel == 0 {
				when = 1
			}
			places := slices.Clone(c.places)
			for len(places) < when+2 {
				places = append(places, places[len(places)-1])
			}
			a := tryRun(t, going(t, window, 0, c.vel), with(api.Command{ID: 4, Kind: api.CmdHalt, Target: 50, Speed: 99}), places, event{1, 4, active}, event{when, 4, done})
			if a.State != standstill || len(ids(a)) != 0 {
				t.Errorf("%+v", a)
			}
		}
	}
}

// P15.2, part 7: a stop is done once it stands, and keeps its state till it is let go, in a later cycle.
func TestStop(t *testing.T) {
	free := on
	free.Release = true
	for _, window := range []int{1, 2, 3, 4, 16} {
		when := max(2, window)
		a := going(t, window, 0, 5)
		in := with(api.Command{ID: 4, Kind: api.CmdStop, Target: 50, Speed: 99})
		r := run(t, a, in, 30)
		if !slices.Equal(r.events, []event{{1, 4, active}, {when, 4, done}}) || r.State != stopping || r.Gen != (api.Gen{Pos: 2}) || len(ids(r.Axis)) != 0 {
			t.Errorf("window %d: %+v", window, r)
		}
		// Let go all along: behind the cycle in which it is done.
		in.Release = true
		r = run(t, a, in, when)
		if !slices.Equal(r.events, []event{{1, 4, active}, {when, 4, done}}) || r.State != stopping {
			t.Errorf("window %d: %+v", window, r)
		}
		want := r.Axis
		want.State = standstill
		tryStep(t, r.Axis, free, want)
		tryStep(t, r.Axis, on, r.Axis)
	}
}

// P15.2, part 7: an axis that stops doesn't leave the state as long as it isn't at rest, though it is let go.
func TestStopAtRest(t *testing.T) {
	free := on
	free.Release = true
	a := inState(ready(t, 3, 7), stopping)
	a.Line = api.Line{}
	a.Smooth.Last = []int64{7, 6, 6}
	for i, state := range []int{stopping, standstill} {
		if a = tryReports(t, a, free); a.State != state {
			t.Error(i, a)
		}
	}
	a = inState(going(t, 1, 7, 5), stopping)
	a.Line = api.Line{}
	for i, state := range []int{stopping, standstill} {
		if a = tryReports(t, a, free); a.State != state {
			t.Error(i, a)
		}
	}
}

// P15.2, part 7: Release leads out of no other state.
func TestReleaseElsewhere(t *testing.T) {
	for _, a := range rightAxes(t, 2) {
		if a.State != stopping {
			in := on
			in.Actual = 7
			free := in
			free.Release = true
			want, l := step(t, a, in)
			tryStep(t, a, free, want, l...)
		}
	}
}

// P15.2, parts 6 and 7: moves one behind the other; the next one begins as the one ahead is done.
func TestBuffered(t *testing.T) {
	a := tryRun(t, ready(t, 1, 0), with(move(1, 10, 5, 0), move(2, 4, 5, 1), move(3, 5, 1, 1)),
		[]int64{2, 6, 9, 10, 10, 8, 5, 4, 4, 5, 5, 5},
		event{1, 1, active}, event{5, 1, done}, event{5, 2, active}, event{9, 2, done}, event{9, 3, active}, event{11, 3, done})
	if a.State != standstill {
		t.Error(a)
	}
	// With a longer window each one waits till that rests.
	a = tryRun(t, ready(t, 3, 0), with(move(1, 10, 5, 0), move(2, 4, 5, 1)),
		[]int64{2, 6, 9, 10, 10, 10, 8, 5, 4, 4, 4, 4},
		event{1, 1, active}, event{6, 1, done}, event{6, 2, active}, event{11, 2, done})
	if a.State != standstill {
		t.Error(a)
	}
}

// P15.2, part 7: of moves that are all at their places one ends in a cycle.
func TestOneEndsInACycle(t *testing.T) {
	a := tryRun(t, ready(t, 1, 0), with(move(1, 0, 5, 0), move(2, 0, 5, 1), move(3, 0, 5, 2)), []int64{0, 0, 0, 0},
		event{1, 1, active}, event{1, 1, done}, event{1, 2, active}, event{2, 2, done}, event{2, 3, active}, event{3, 3, done})
	if a.State != standstill {
		t.Error(a)
	}
	b, _ := step(t, ready(t, 1, 0), with(move(1, 0, 5, 0), move(2, 0, 5, 1)))
	if b.State != discrete || !slices.Equal(ids(b), []int{2}) {
		t.Error(b)
	}
}

// blend is a move, with one that waits.
type blend struct {
	mode         int
	first, other int64 // speeds
	u            int64 // at the place of the first one
}

// blends of each mode, with the lesser speed ahead and behind.
func blends() []blend {
	return []blend{
		{2, 4, 2, 2}, {2, 2, 4, 2}, {2, 3, 3, 3}, {3, 4, 2, 4}, {3, 2, 4, 2}, {4, 4, 2, 2}, {4, 2, 4, 4}, {5, 4, 2, 4}, {5, 2, 4, 4}, {5, 5, 1, 5}, {2, 5, 1, 1},
	}
}

// tryBlend runs a move by its place, cycle by cycle, till it is done there.
func tryBlend(t *testing.T, b blend, side, from, place, next int64, override int) {
	t.Helper()
	a := ready(t, 3, from)
	in := with(move(1, place, b.first, 0), move(2, next, b.other, b.mode))
	in.Override = override
	g := a.Gen
	for range 100 {
		n, l := step(t, a, in)
		want := gen.Step(small, g, gen.By(small, g, place, b.u, next, b.first*int64(override)/100))
		if n.Gen != want {
			t.Errorf("%+v: from %+v to %+v, not %+v", b, g, n.Gen, want)
			return
		}
		come := side*(n.Gen.Pos-place) >= 0
		if slices.Contains(l, api.Report{ID: 1, What: done}) != come || slices.Contains(l, api.Report{ID: 2, What: active}) != come {
			t.Errorf("%+v: at %+v: %v", b, n.Gen, l)
			return
		}
		if n.State != discrete {
			t.Errorf("%+v: state %d", b, n.State)
		}
		a, g, in.Commands = n, n.Gen, nil
		if come {
			if g.Vel == 0 || !slices.Equal(ids(a), []int{2}) {
				t.Errorf("%+v: %+v", b, a)
			}
			return
		}
	}
	t.Errorf("%+v: never by %d: %+v", b, place, a)
}

// P15.2, parts 6 and 7: a next place beyond this one's, by each blending mode, both ways.
func TestBlendBeyond(t *testing.T) {
	for _, b := range blends() {
		for _, override := range []int{100, 75, 50} {
			for _, from := range []int64{0, -20} {
				for _, place := range []int64{7, 8, 9, 10, 30, 31} {
					for _, way := range []int64{1, 2, 5, 50} {
						tryBlend(t, b, 1, from, place, place+way, override)
						tryBlend(t, b, -1, -from, -place, -place-way, override)
					}
				}
			}
		}
	}
}

// P15.2, part 6: by the mode of the command that waits, not of the one under way.
func TestBlendModeOfWhichCommand(t *testing.T) {
	a := under(going(t, 1, 0, 5), discrete, move(1, 6, 5, 5), move(2, 40, 1, 2))
	tryRun(t, a, on, []int64{4, 6, 7, 8}, event{2, 1, done}, event{2, 2, active})
	a = under(going(t, 1, 0, 5), discrete, move(1, 6, 5, 2), move(2, 40, 1, 5))
	tryRun(t, a, on, []int64{5, 10, 12, 13}, event{2, 1, done}, event{2, 2, active})
	// One that blends waits behind one that doesn't.
	a = under(going(t, 1, 0, 4), discrete, move(1, 8, 4, 0), move(2, 40, 2, 1), move(3, 50, 2, 5))
	tryRun(t, a, on, []int64{4, 7, 8, 8, 10, 12}, event{4, 1, done}, event{4, 2, active})
	a = under(going(t, 1, 0, 4), discrete, move(1, 8, 4, 0), move(2, 4, 2, 5), move(3, 50, 2, 5))
	tryRun(t, a, on, []int64{4, 7, 8, 8, 6}, event{4, 1, done}, event{4, 2, active})
}

// P15.2, part 7: its place is come to just so, or gone beyond.
func TestComeToOrGoneBeyond(t *testing.T) {
	for _, side := range []int64{1, -1} {
		for _, c := range []struct {
			place int64
			when  int
		}{{1, 1}, {2, 1}, {3, 2}, {5, 2}, {6, 2}, {7, 3}, {11, 3}, {12, 4}} {
			a := ready(t, 4, 0)
			in := with(move(1, side*c.place, 5, 0), move(2, side*90, 5, 5))
			places := []int64{side * 2, side * 6, side * 11, side * 16}
			a = tryRun(t, a, in, places[:c.when], event{1, 1, active}, event{c.when, 1, done}, event{c.when, 2, active})
			if a.State != discrete || a.Gen.Vel == 0 {
				t.Error(c, a)
			}
		}
	}
}

// P15.2, parts 6 and 7: a next place on the near side, at the place itself, or the other way: it stops at its own.
func TestBlendNotBeyond(t *testing.T) {
	for mode := 1; mode <= 5; mode++ {
		for _, side := range []int64{1, -1} {
			for _, next := range []int64{20, 19, 10, 1, 0, -1, -50} {
				places := []int64{}
				for _, n := range []int64{2, 6, 11, 16, 19, 20, 20} {
					places = append(places, side*n)
				}
				in := with(move(1, side*20, 5, 0), move(2, side*next, 5, mode))
				a := tryRun(t, ready(t, 1, 0), in, places, event{1, 1, active}, event{7, 1, done}, event{7, 2, active})
				r := run(t, a, on, 40)
				if r.Gen != (api.Gen{Pos: side * next}) || r.State != standstill || r.events[0].id != 2 {
					t.Errorf("next %d: %+v", next, r)
				}
			}
		}
	}
}

// P15.2, parts 6 and 7: with Buffered, a place beyond is come to from a stop.
func TestBufferedBeyond(t *testing.T) {
	tryRun(t, ready(t, 1, 0), with(move(1, 10, 5, 0), move(2, 20, 5, 1)), []int64{2, 6, 9, 10, 10, 12, 16, 19, 20, 20},
		event{1, 1, active}, event{5, 1, done}, event{5, 2, active}, event{10, 2, done})
}

// P15.2, parts 6 and 7: a row of blended moves, and the last one lands.
func TestBlendedRow(t *testing.T) {
	for _, window := range []int{1, 3} {
		a := tryRun(t, ready(t, window, 0), with(move(1, 10, 5, 0), move(2, 20, 3, 2), move(3, 30, 5, 5)),
			[]int64{2, 6, 10, 13, 16, 19, 22, 27, 30, 30, 30, 30},
			event{1, 1, active}, event{3, 1, done}, event{3, 2, active}, event{7, 2, done}, event{7, 3, active}, event{max(10, 9+window-1), 3, done})
		if a.State != standstill {
			t.Error(a)
		}
	}
}

// P15.2, part 6: going the other way, it stops first, and is done only once it has come to its place.
func TestBlendTheOtherWay(t *testing.T) {
	a := under(going(t, 1, 0, -5), discrete, move(1, 3, 5, 0), move(2, 60, 5, 5))
	tryRun(t, a, on, []int64{-2, -2, 0, 4, 9}, event{4, 1, done}, event{4, 2, active})
}

// P15.2, part 7: from its place itself nothing is seen beyond it: it comes to a stop there.
func TestBlendAtItsPlace(t *testing.T) {
	row := func(next int64) []api.Command { return []api.Command{move(1, 20, 5, 0), move(2, next, 5, 5)} }
	up, down := going(t, 1, 20, 5), going(t, 1, 20, -5)
	// It goes by, comes back, and from there the next place lies the other way.
	tryRun(t, up, with(row(60)...), []int64{22, 22, 20, 20, 22, 26}, event{1, 1, active}, event{4, 1, done}, event{4, 2, active})
	tryRun(t, down, with(row(-40)...), []int64{18, 18, 20, 20, 18, 14}, event{1, 1, active}, event{4, 1, done}, event{4, 2, active})
	// It goes by, and comes back by its place to the next one.
	tryRun(t, up, with(row(-40)...), []int64{22, 22, 20, 16}, event{1, 1, active}, event{3, 1, done}, event{3, 2, active})
	tryRun(t, down, with(row(60)...), []int64{18, 18, 20, 24}, event{1, 1, active}, event{3, 1, done}, event{3, 2, active})
	b := under(ready(t, 2, 20), discrete, move(1, 20, 5, 0), move(2, 60, 5, 5))
	b.Smooth.Last = []int64{20, 19}
	tryRun(t, b, on, []int64{20, 22}, event{1, 1, done}, event{1, 2, active})
	for _, side := range []int64{1, -1} {
		c := under(ready(t, 3, 20), discrete, move(1, 20, 5, 0), move(2, 20+40*side, 5, 5))
		c.Smooth.Last = []int64{20, 19, 19}
		tryRun(t, c, on, []int64{20, 20, 20 + 2*side}, event{2, 1, done}, event{2, 2, active})
	}
}

// P15.2, part 6: not homed, it moves beyond its limits, to a stop and by a place; those of its speeds hold.
func TestMoveBeyondLimits(t *testing.T) {
	for _, side := range []int64{1, -1} {
		a := placed(ready(t, 2, 0), 200*side, 0)
		a.Homed = false
		places := []int64{}
		for _, n := range []int64{202, 206, 211, 216, 219, 220, 220} {
			places = append(places, side*n)
		}
		tryRun(t, a, with(api.Command{ID: 1, Kind: api.CmdRel, Target: 20 * side, Speed: 5}), places, event{1, 1, active}, event{7, 1, done})
		d := api.Command{ID: 2, Kind: api.CmdRel, Target: 9 * side, Speed: 5, Mode: api.BlendHigh}
		tryRun(t, a, with(api.Command{ID: 1, Kind: api.CmdRel, Target: 11 * side, Speed: 5}, d), places, event{1, 1, active}, event{3, 1, done}, event{3, 2, active}, event{7, 2, done})
	}
}

// tryGear runs a gear by a master's places, held against layer 14.
func tryGear(t *testing.T, a api.Axis, num, den int64, masters []int64) api.Axis {
	t.Helper()
	in := with(api.Command{ID: 1, Kind: api.CmdGear, Target: 2, Num: num, Den: den})
	start, from, g := a.Gen.Pos, masters[0], a.Gen
	for i, master := range masters {
		in.Master = master
		v, ok := gear.Want(Bounds(a), g, start, from, master, num, den)
		g = gen.Step(Bounds(a), g, v)
		n, l := step(t, a, in)
		if n.Gen != g || n.InStep != ok || n.State != synced || n.Start != start || n.Master != from {
			t.Errorf("master %d: %+v, not %+v %v", master, n, g, ok)
		}
		if len(l) != 0 && i > 0 || i == 0 && !slices.Equal(l, told(active, 1)) {
			t.Error(l)
		}
		a, in.Commands = n, nil
	}
	return a
}

// P15.2, part 6: a gear in step, out of it, and in step again; by ratios of both signs.
func TestGear(t *testing.T) {
	a := tryGear(t, ready(t, 1, 7), 1, 2, []int64{100, 104, 112, 122, 132, 136, 136})
	if a.Gen.Pos != 25 || !a.InStep {
		t.Error(a)
	}
	a = tryGear(t, ready(t, 1, 7), 1, 2, []int64{100, 110})
	if a.Gen.Pos != 9 || a.InStep {
		t.Error(a)
	}
	a = tryGear(t, ready(t, 1, 7), 1, 2, []int64{100, 110, 110, 110, 110})
	if a.Gen.Pos != 12 || !a.InStep {
		t.Error(a)
	}
	tryGear(t, ready(t, 3, 7), -2, 1, []int64{100, 101, 102, 104, 106, 108, 109, 109})
	tryGear(t, going(t, 3, 7, 5), 1, 1, []int64{100, 105, 110, 115})
	tryGear(t, ready(t, 2, 7), 3, 1, []int64{0, great, least, 0, great, 0, 0, 0})
	tryGear(t, ready(t, 2, 7), great, 1, []int64{least, great, 0, 1, 2})
	tryGear(t, ready(t, 2, 7), 1, 1, []int64{-5, great, great, -5, -5, -5})
}

// P15.2, part 6: a gear keeps the bounds, homed and not.
func TestGearWithinBounds(t *testing.T) {
	masters := []int64{0}
	for i := range int64(60) {
		masters = append(masters, 4*i)
	}
	a := tryGear(t, ready(t, 1, 0), 1, 1, masters)
	if a.Gen != (api.Gen{Pos: 110}) || a.InStep {
		t.Error(a)
	}
	b := ready(t, 1, 0)
	b.Homed = false
	if a = tryGear(t, b, 1, 1, masters); a.Gen.Pos != 236 || !a.InStep {
		t.Error(a)
	}
}

// P15.2, part 6: Override counts for moves and speeds alone.
func TestOverrideElsewhere(t *testing.T) {
	for _, state := range []int{synced, homing, stopping, standstill, errStop} {
		a := inState(going(t, 2, 7, 4), state)
		in := on
		in.Master = 8
		full, _ := step(t, a, in)
		in.Override = 0
		none, _ := step(t, a, in)
		if full.Gen != none.Gen {
			t.Errorf("state %d: %+v, %+v", state, full.Gen, none.Gen)
		}
	}
}

// P15.2, part 6: InStep stays as it was where no gear is under way.
func TestInStepElsewhere(t *testing.T) {
	for _, a := range rightAxes(t, 2) {
		if a.State != synced {
			for _, was := range bothTruths() {
				a.InStep = was
				in := on
				in.Master = great
				if n, _ := step(t, a, in); n.InStep != was {
					t.Errorf("state %d: %v", a.State, n.InStep)
				}
			}
		}
	}
}

// search is a search that is run: where the home switch shows, and the switches at the ends, by the drive's place.
type search struct {
	fast, creep     int64
	homeLo, homeHi  int64
	plus, minus     int64
	window          int
	offset, pos     int64
	homeAt          int64
	wantPos         int64 // ahead of the move to HomeAt
	fails, wasHomed bool
}

// axis that stands ready for the search.
func (s search) axis(t *testing.T) api.Axis {
	t.Helper()
	a := placed(ready(t, s.window, 0), s.pos, 0)
	a.Fast, a.Creep, a.Offset, a.Homed, a.HomeAt = s.fast, s.creep, s.offset, s.wasHomed, s.homeAt
	return a
}

// shown are the switches where the axis is.
func (s search) shown(pos int64) api.In {
	in := on
	in.Home = s.homeLo <= pos && pos <= s.homeHi
	in.Plus, in.Minus = pos >= s.plus, pos <= s.minus
	return in
}

// trySearch runs a search cycle by cycle, held against layer 13, to its end.
func trySearch(t *testing.T, s search) {
	t.Helper()
	a := s.axis(t)
	h, e := home.New(s.fast, s.creep)
	if e != api.OK || !Right(a) {
		t.Fatalf("%+v", a)
	}
	free := api.Limits{Vel: 5, Acc: 2, Dec: 3, Lo: -maxPlace, Hi: maxPlace}
	d := []api.Command{{ID: 1, Kind: api.CmdHome}}
	for i := range 300 {
		in := s.shown(a.Gen.Pos)
		in.Commands = d
		want, v := home.Step(h, in.Home, in.Plus, in.Minus, a.Gen.Vel == 0)
		g := gen.Step(free, a.Gen, v)
		n, l := step(t, a, in)
		if i == 0 {
			if len(l) == 0 || l[0] != (api.Report{ID: 1, What: active}) {
				t.Errorf("%+v: begins with %v", s, l)
				return
			}
			l = l[1:]
		}
		if n.Home != want {
			t.Errorf("%+v: the search is %+v, not %+v", s, n.Home, want)
			return
		}
		if n.State != homing {
			endSearch(t, s, a, n, g, l)
			return
		}
		if len(l) != 0 || n.Gen != g || n.Homed || n.Offset != s.offset || n.Cause != 0 {
			t.Errorf("%+v: %+v, not %+v; %v", s, n, g, l)
			return
		}
		a, h, d = n, want, nil
	}
	t.Errorf("%+v: it never ends: %+v", s, a)
}

// endSearch asks for what stands behind the last cycle of a search.
func endSearch(t *testing.T, s search, a, n api.Axis, g api.Gen, l []api.Report) {
	t.Helper()
	pushed := a
	pushed.Gen = g
	pushed.Smooth.Last = append([]int64{g.Pos}, a.Smooth.Last[:s.window-1]...)
	want := pushed
	want.Line, want.Home = api.Line{}, n.Home
	reports := told(done, 1)
	if s.fails {
		want.State, want.Cause = errStop, 5
		reports = told(failed, 1)
	} else {
		want.State, want.Homed, want.Offset = standstill, true, s.offset+g.Pos-s.homeAt
		want = placed(want, s.homeAt, 0)
		if g.Pos != s.wantPos {
			t.Errorf("%+v: found at %d", s, g.Pos)
		}
	}
	if !same(n, want) || !slices.Equal(l, reports) {
		t.Errorf("%+v ends:\n%+v %v, not\n%+v %v", s, n, l, want, reports)
	}
	if Out(n) != Out(pushed) {
		t.Errorf("%+v: its drive is told %d, not %d", s, Out(n), Out(pushed))
	}
}

// P15.2, parts 6 and 7: searches from their beginning to their end, upwards and downwards.
func TestHoming(t *testing.T) {
	for _, window := range []int{1, 2, 3, 7, 16} {
		for _, offset := range []int64{0, 1000, -1000} {
			for _, s := range []search{
				{fast: 4, creep: 1, homeLo: 30, homeHi: 60, plus: 200, minus: -200, wantPos: 29},
				{fast: -4, creep: -1, homeLo: -60, homeHi: -30, plus: 200, minus: -200, wantPos: -29},
				{fast: 5, creep: 5, homeLo: 30, homeHi: 60, plus: 200, minus: -200, wantPos: 26},
				{fast: 4, creep: 1, homeLo: -60, homeHi: -30, plus: 20, minus: -200, wantPos: -29},
				{fast: -4, creep: -1, homeLo: 30, homeHi: 60, plus: 200, minus: -20, wantPos: 29},
				{fast: 4, creep: 1, homeLo: -10, homeHi: 60, plus: 200, minus: -200, wantPos: -11},
				{fast: 4, creep: 1, homeLo: 500, homeHi: 600, plus: 20, minus: -20, fails: true},
				{fast: -4, creep: -1, homeLo: 500, homeHi: 600, plus: 20, minus: -20, fails: true},
				{fast: 4, creep: 1, homeLo: -60, homeHi: 60, plus: 200, minus: -20, fails: true},
				{fast: -4, creep: -1, homeLo: -60, homeHi: 60, plus: 20, minus: -200, fails: true},
				{fast: 4, creep: 1, homeLo: 500, homeHi: 600, plus: -1000, minus: 1000, fails: true},
			} {
				for _, homeAt := range []int64{-100, 10, 29, 110} {
					s.window, s.offset, s.homeAt = window, offset, homeAt
					s.wasHomed = homeAt == 10
					trySearch(t, s)
				}
			}
		}
	}
}

// found is an axis in Homing that stands at a place where its search is done.
func found(t *testing.T, window int, pos, offset int64) api.Axis {
	t.Helper()
	a := placed(inState(ready(t, window, 7), homing), pos, 0)
	a.Home.Phase, a.Offset = api.HomeDone, offset
	return a
}

// P15.2, part 7: a search that is done waits till the axis stands, and its window rests.
func TestHomingEndsAtRest(t *testing.T) {
	a := found(t, 3, 50, 0)
	a.Gen.Vel = 5
	r := run(t, a, on, 4)
	// 52, by a speed of 2, then 0; the window is full of 52 in cycle 3.
	if !slices.Equal(r.events, []event{{3, 1, done}}) || r.State != standstill || r.Gen != (api.Gen{Pos: 10}) || r.Offset != 42 {
		t.Errorf("%+v", r)
	}
	a = found(t, 1, 50, 0)
	a.Gen.Vel = 5
	r = run(t, a, on, 4)
	if !slices.Equal(r.events, []event{{2, 1, done}}) || r.Offset != 42 {
		t.Errorf("%+v", r)
	}
	// One that stands, as its search gets done: the same cycle.
	a = found(t, 1, 50, 0)
	a.Home.Phase = api.HomeEnd
	r = run(t, a, on, 1)
	if !slices.Equal(r.events, []event{{1, 1, done}}) || r.Home.Phase != api.HomeDone || !r.Homed {
		t.Errorf("%+v", r)
	}
	for phase := 0; phase <= 3; phase++ {
		a.Home.Phase = phase
		in := on
		in.Home = true
		if phase < 3 {
			if n := tryReports(t, a, in); n.State != homing || n.Homed {
				t.Errorf("%+v", n)
			}
		}
	}
}

// P15.2, part 7: an Offset at both ends of its range, and one beyond, behind the move to HomeAt.
func TestHomingOffset(t *testing.T) {
	for _, window := range []int{1, 3} {
		for _, c := range []struct {
			pos, offset int64
			ok          bool
		}{
			{50, 0, true}, {50, maxOffset - 40, true}, {50, maxOffset - 39, false}, {50, maxOffset, false},
			{-50, maxOffset, true}, {-50, -maxOffset + 60, true}, {-50, -maxOffset + 59, false}, {-50, -maxOffset, false},
			{10, maxOffset, true}, {10, -maxOffset, true}, {11, maxOffset, false}, {9, -maxOffset, false}, {9, maxOffset, true}, {11, -maxOffset, true},
			{maxPlace, maxOffset - maxPlace + 10, true}, {maxPlace, maxOffset - maxPlace + 11, false},
		} {
			a := found(t, window, c.pos, c.offset)
			want := a
			want.Line = api.Line{}
			if c.ok {
				want = placed(want, 10, 0)
				want.State, want.Homed, want.Offset = standstill, true, c.offset+c.pos-10
				tryStep(t, a, on, want, told(done, 1)...)
			} else {
				want.State, want.Cause = errStop, 5
				n := tryStep(t, a, on, want, told(failed, 1)...)
				if Out(n) != Out(a) {
					t.Errorf("its drive is told %d, not %d", Out(n), Out(a))
				}
			}
			// As long as it isn't at rest, no Offset is asked for.
			if window > 1 {
				a.Smooth.Last[2]++
				a.Smooth.Last[1]++
				if n := tryReports(t, a, on); n.State != homing {
					t.Errorf("%+v", n)
				}
			}
		}
	}
}

// P15.2, part 7: a search that fails does so at once, also of an axis that goes, and that only brakes then.
func TestHomingFails(t *testing.T) {
	a := found(t, 2, 50, 0)
	a.Gen.Vel = 5
	a.Home.Phase = api.HomeFail
	want := behind(a, 2)
	want.State, want.Cause, want.Line = errStop, 5, api.Line{}
	tryStep(t, a, on, want, told(failed, 1)...)
	a.Home = api.Home{Phase: api.HomeSeek, Fast: 4, Creep: 1, Turned: true}
	in := on
	in.Plus = true
	want.Home = api.Home{Phase: api.HomeFail, Fast: 4, Creep: 1, Turned: true}
	tryStep(t, a, in, want, told(failed, 1)...)
}

// P15.2, part 6: the switches come to the search each as itself, and whether the axis stood still ahead of the step.
func TestHomingSwitches(t *testing.T) {
	for _, fast := range []int64{4, -4} {
		for phase := 0; phase <= 4; phase++ {
			for bits := range 8 {
				for _, vel := range []int64{-5, -3, 0, 2, 5} {
					a := found(t, 2, 7, 0)
					a.Gen.Vel, a.Home = vel, api.Home{Phase: phase, Fast: fast, Creep: fast / 4}
					in := on
					in.Home, in.Plus, in.Minus = bits&1 > 0, bits&2 > 0, bits&4 > 0
					want, v := home.Step(a.Home, in.Home, in.Plus, in.Minus, vel == 0)
					g := gen.Step(Bounds(a), a.Gen, v)
					n, _ := step(t, a, in)
					if n.Home != want || n.State == homing && n.Gen != g {
						t.Errorf("%+v\nbehind %+v: %+v %+v, not %+v %+v", a, in, n.Home, n.Gen, want, g)
					}
				}
			}
		}
	}
}

// P15.2, part 6: Standstill, Stopping and ErrorStop want to stand, whatever comes; each place is pushed.
func TestWantsToStand(t *testing.T) {
	for _, state := range []int{standstill, stopping, errStop} {
		for vel, way := range map[int64][]int64{7: {4, 5, 5, 5, 5}, 5: {2, 2, 2, 2, 2}, 0: {0, 0, 0, 0, 0}, -5: {-2, -2, -2, -2, -2}, -7: {-4, -5, -5, -5, -5}} {
			a := inState(going(t, 3, 0, vel), state)
			a.Smooth.Last = []int64{0, 1, 2}
			in := on
			in.Master = 1000
			r := run(t, a, in, 5)
			if !slices.Equal(r.places, way) {
				t.Errorf("state %d, from %d: %v", state, vel, r.places)
			}
			n, _ := step(t, a, in)
			if !slices.Equal(n.Smooth.Last, []int64{n.Gen.Pos, 0, 1}) {
				t.Error(fmt.Sprint(state, vel), n.Smooth)
			}
		}
	}
}

// P15.2: a command that aborts a move takes over from its speed; all that waited goes.
func TestTakesOver(t *testing.T) {
	a := under(going(t, 1, 0, 5), discrete, move(1, 60, 5, 0), move(2, 70, 5, 1), move(3, 80, 5, 2))
	tryRun(t, a, with(move(4, 9, 5, 0)), []int64{5, 8, 9, 9}, event{1, 1, aborted}, event{1, 2, aborted}, event{1, 3, aborted}, event{1, 4, active}, event{4, 4, done})
	tryRun(t, a, with(api.Command{ID: 4, Kind: api.CmdSpeed, Speed: -2}), []int64{2, 2, 0, -2}, event{1, 1, aborted}, event{1, 2, aborted}, event{1, 3, aborted}, event{1, 4, active})
	tryRun(t, a, with(api.Command{ID: 4, Kind: api.CmdHalt}), []int64{2, 2, 2}, event{1, 1, aborted}, event{1, 2, aborted}, event{1, 3, aborted}, event{1, 4, active}, event{2, 4, done})
}
