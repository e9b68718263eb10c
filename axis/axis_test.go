package axis

import (
	"math"
	"reflect"
	"slices"
	"testing"

	"servitor/api"
)

const (
	least = math.MinInt64
	great = math.MaxInt64
)

// The bounds, the states and the reports by their numbers, written out: a change of what they are must not go by unseen.
const (
	maxPlace  = 1099511627776
	maxSpeed  = 1048576
	maxGain   = 1048576
	maxOffset = 288230376151711744

	disabled, standstill, homing, stopping = 0, 1, 2, 3
	discrete, continuous, synced, errStop  = 4, 5, 6, 7

	active, done, aborted, failed, refused = 1, 2, 3, 4, 5
)

// small limits, each number unlike the others.
var small = api.Limits{Vel: 5, Acc: 2, Dec: 3, Lo: -100, Hi: 110}

// on is a cycle in which nothing is asked for but power.
var on = api.In{Power: true, Op: true, Override: 100}

func states() []int {
	return []int{disabled, standstill, homing, stopping, discrete, continuous, synced, errStop}
}

func windows() []int { return []int{1, 2, 3, 4, 5, 8, 15, 16} }

func bothTruths() []bool { return []bool{false, true} }

// made is an axis of small limits that was just made.
func made(t *testing.T, window int) api.Axis {
	t.Helper()
	a, e := New(small, window, 10, 4, 1)
	if e != api.OK {
		t.Fatal(e)
	}
	return a
}

// placed is an axis at a place, with a speed, whose window is full of that place.
func placed(a api.Axis, pos, vel int64) api.Axis {
	a.Gen = api.Gen{Pos: pos, Vel: vel}
	a.Smooth = api.Smooth{Last: slices.Repeat([]int64{pos}, a.Window)}
	return a
}

// ready is an axis in Standstill at a place, homed.
func ready(t *testing.T, window int, pos int64) api.Axis {
	t.Helper()
	a := placed(made(t, window), pos, 0)
	a.State, a.Homed = standstill, true
	return a
}

// going is a ready axis with a speed.
func going(t *testing.T, window int, pos, vel int64) api.Axis {
	t.Helper()
	return placed(ready(t, window, pos), pos, vel)
}

// move is a command to a place, as it is kept.
func move(id int, target, speed int64, mode int) api.Command {
	return api.Command{ID: id, Kind: api.CmdAbs, Target: target, Speed: speed, Mode: mode}
}

// under is an axis in a state with a command under way and those that wait.
func under(a api.Axis, state int, now api.Command, wait ...api.Command) api.Axis {
	a.State = state
	a.Line = api.Line{Now: []api.Command{now}, Wait: wait}
	return a
}

// inState is a right axis in a state, from a ready one: with the command 1 under way, if the state has one, and as many that wait as it may have.
func inState(a api.Axis, state int) api.Axis {
	a.State, a.Line = state, api.Line{}
	switch state {
	case homing:
		a = under(a, state, api.Command{ID: 1, Kind: api.CmdHome})
		a.Home = api.Home{Phase: api.HomeSeek, Fast: 4, Creep: 1}
		a.Homed = false
	case stopping:
		a = under(a, state, api.Command{ID: 1, Kind: api.CmdStop})
	case discrete:
		a = under(a, state, move(1, 50, 5, 0), move(2, 60, 4, 1), move(3, 55, 3, 2), move(4, 20, 2, 3))
	case continuous:
		a = under(a, state, api.Command{ID: 1, Kind: api.CmdSpeed, Speed: 5})
	case synced:
		a = under(a, state, api.Command{ID: 1, Kind: api.CmdGear, Num: 1, Den: 2})
		a.InStep = true
	case errStop:
		a.Cause = api.CauseLost
	}
	return a
}

// ids of an axis' commands, in order.
func ids(a api.Axis) []int {
	l := []int{}
	for _, d := range slices.Concat(a.Line.Now, a.Line.Wait) {
		l = append(l, d.ID)
	}
	return l
}

// same: are two axes one, a list nil or empty alike?
func same(a, b api.Axis) bool {
	return slices.Equal(a.Smooth.Last, b.Smooth.Last) && slices.Equal(a.Line.Now, b.Line.Now) && slices.Equal(a.Line.Wait, b.Line.Wait) &&
		reflect.DeepEqual(bare(a), bare(b))
}

// bare is an axis without its lists.
func bare(a api.Axis) api.Axis {
	a.Smooth, a.Line = api.Smooth{}, api.Line{}
	return a
}

// roomy is a list again, with spare room behind it that is filled with something.
func roomy[E any](l []E, fill E) []E {
	full := append(slices.Clone(l), fill, fill, fill)
	return full[: len(l) : len(l)+3]
}

// spare is what stands in the room behind a list.
func spare[E any](l []E) []E { return l[:cap(l)][len(l):] }

// mark is a command that is nowhere in the tests else.
var mark = api.Command{ID: -77, Kind: -77, Target: -77}

// lent is an axis again, each list with spare room.
func lent(a api.Axis) api.Axis {
	a.Smooth.Last = roomy(a.Smooth.Last, -77)
	a.Line = api.Line{Now: roomy(a.Line.Now, mark), Wait: roomy(a.Line.Wait, mark)}
	return a
}

// untouched: does the spare room of a lent axis stand as it was?
func untouched(a api.Axis) bool {
	marks := []api.Command{mark, mark, mark}
	return slices.Equal(spare(a.Line.Now), marks) && slices.Equal(spare(a.Line.Wait), marks) && slices.Equal(spare(a.Smooth.Last), []int64{-77, -77, -77})
}

// scribble over all memory of an axis.
func scribble(a api.Axis) {
	for _, l := range [][]api.Command{a.Line.Now, a.Line.Wait} {
		for i := range l[:cap(l)] {
			l[:cap(l)][i] = api.Command{ID: -88}
		}
	}
	last := a.Smooth.Last[:cap(a.Smooth.Last)]
	for i := range last {
		last[i] = -88
	}
}

// copied is an axis again, in memory of its own.
func copied(a api.Axis) api.Axis {
	a.Smooth.Last = slices.Clone(a.Smooth.Last)
	a.Line = api.Line{Now: slices.Clone(a.Line.Now), Wait: slices.Clone(a.Line.Wait)}
	return a
}

// apart: what is handed in stands as it did, also when all of what was answered is written over.
func apart(t *testing.T, given, kept, answer api.Axis) {
	t.Helper()
	scribble(answer)
	if !same(given, kept) || !untouched(given) {
		t.Fatalf("the axis that was given is %+v, not %+v, behind a call", given, kept)
	}
}

// step is Step, held to what holds of each of them.
func step(t *testing.T, a api.Axis, in api.In) (api.Axis, []api.Report) {
	t.Helper()
	given, commands := lent(a), slices.Clone(in.Commands)
	in.Commands = roomy(in.Commands, mark)
	n, l := Step(given, in)
	next, told := copied(n), slices.Clone(l)
	apart(t, given, a, n)
	if !slices.Equal(in.Commands, commands) || !slices.Equal(spare(in.Commands), []api.Command{mark, mark, mark}) {
		t.Fatalf("the commands are %v behind a step, not %v", in.Commands, commands)
	}
	if Right(a) && !Right(next) {
		t.Fatalf("%+v\nwas right, and is not behind %+v:\n%+v", a, in, next)
	}
	return next, told
}

// steps of cycles in which the same comes, but commands, which come in the first one alone.
func steps(t *testing.T, a api.Axis, in api.In, n int) api.Axis {
	t.Helper()
	for range n {
		a, _ = step(t, a, in)
		in.Commands = nil
	}
	return a
}

// tryStep asks for the axis behind a cycle, and for its reports.
func tryStep(t *testing.T, a api.Axis, in api.In, want api.Axis, reports ...api.Report) api.Axis {
	t.Helper()
	if !Right(a) {
		t.Fatalf("not right: %+v", a)
	}
	n, l := step(t, a, in)
	if !same(n, want) {
		t.Errorf("Step of %+v\nby %+v:\n%+v, not\n%+v", a, in, n, want)
	}
	if !slices.Equal(l, reports) {
		t.Errorf("Step of %+v\nby %+v: reports %v, not %v", a, in, l, reports)
	}
	return n
}

// tryReports asks for the reports of a cycle alone.
func tryReports(t *testing.T, a api.Axis, in api.In, reports ...api.Report) api.Axis {
	t.Helper()
	if !Right(a) {
		t.Fatalf("not right: %+v", a)
	}
	n, l := step(t, a, in)
	if !slices.Equal(l, reports) {
		t.Errorf("Step of %+v\nby %+v: reports %v, not %v", a, in, l, reports)
	}
	return n
}

// told is what became of commands that all end in one way.
func told(what int, ids ...int) []api.Report {
	l := []api.Report{}
	for _, id := range ids {
		l = append(l, api.Report{ID: id, What: what})
	}
	return l
}

// behind is an axis whose generator went on, its place pushed into the window.
func behind(a api.Axis, vel int64) api.Axis {
	a.Gen = api.Gen{Pos: a.Gen.Pos + vel, Vel: vel}
	a.Smooth.Last = append([]int64{a.Gen.Pos}, a.Smooth.Last[:a.Window-1]...)
	return a
}

// with is a cycle in which commands come.
func with(l ...api.Command) api.In {
	in := on
	in.Commands = l
	return in
}

// parts of which an axis is made.
type parts struct {
	l           api.Limits
	window      int
	home        int64
	fast, creep int64
}

// make asks New.
func (p parts) make() (api.Axis, api.Errno) { return New(p.l, p.window, p.home, p.fast, p.creep) }

// tryMade asks for an axis that was just made, each of its fields.
func tryMade(t *testing.T, p parts) {
	t.Helper()
	want := api.Axis{
		State: 0, Limits: p.l, Window: p.window, HomeAt: p.home, Fast: p.fast, Creep: p.creep,
		Gen: api.Gen{Pos: 0, Vel: 0}, Smooth: api.Smooth{Last: make([]int64, p.window)}, Offset: 0, Line: api.Line{}, Homed: false,
		Home: api.Home{}, Override: 100, Start: 0, Master: 0, Cause: 0, InStep: false,
	}
	if a, e := p.make(); !same(a, want) || e != api.OK {
		t.Errorf("New of %+v: %+v %v, not %+v", p, a, e, want)
	}
	if a, _ := p.make(); !Right(a) {
		t.Errorf("New of %+v makes what is not right", p)
	}
}

// tryUnmade asks for nothing but an error.
func tryUnmade(t *testing.T, p parts) {
	t.Helper()
	if a, e := p.make(); !same(a, api.Axis{}) || e != api.ErrArg {
		t.Errorf("New of %+v: %+v %v", p, a, e)
	}
}

// rightLimits are such at each edge; all of them hold the place 10.
func rightLimits() []api.Limits {
	return []api.Limits{
		small,
		{Vel: 1, Acc: 2, Dec: 3, Lo: -100, Hi: 110}, {Vel: maxSpeed, Acc: 2, Dec: 3, Lo: -100, Hi: 110},
		{Vel: 5, Acc: 1, Dec: 3, Lo: -100, Hi: 110}, {Vel: 5, Acc: maxGain, Dec: 3, Lo: -100, Hi: 110},
		{Vel: 5, Acc: 2, Dec: 1, Lo: -100, Hi: 110}, {Vel: 5, Acc: 2, Dec: maxGain, Lo: -100, Hi: 110},
		{Vel: 5, Acc: 2, Dec: 3, Lo: -maxPlace, Hi: 110}, {Vel: 5, Acc: 2, Dec: 3, Lo: -100, Hi: maxPlace},
		{Vel: 5, Acc: 2, Dec: 3, Lo: 10, Hi: 110}, {Vel: 5, Acc: 2, Dec: 3, Lo: -100, Hi: 10}, {Vel: 5, Acc: 2, Dec: 3, Lo: 10, Hi: 10},
		{Vel: maxSpeed, Acc: maxGain, Dec: maxGain, Lo: -maxPlace, Hi: maxPlace}, {Vel: 1, Acc: 1, Dec: 1, Lo: 9, Hi: 11},
	}
}

// wrongLimits are wrong in one number each.
func wrongLimits() []api.Limits {
	l := []api.Limits{{}, {Vel: 5, Acc: 2, Dec: 3, Lo: 11, Hi: 10}, {Vel: 5, Acc: 2, Dec: 3, Lo: 10, Hi: 9}}
	for _, n := range []int64{least, -maxSpeed, -1, 0, maxSpeed + 1, 1 << 32, great} {
		l = append(l, api.Limits{Vel: n, Acc: 2, Dec: 3, Lo: -100, Hi: 110})
		l = append(l, api.Limits{Vel: 5, Acc: n, Dec: 3, Lo: -100, Hi: 110})
		l = append(l, api.Limits{Vel: 5, Acc: 2, Dec: n, Lo: -100, Hi: 110})
	}
	for _, n := range []int64{least, -maxPlace - 1} {
		l = append(l, api.Limits{Vel: 5, Acc: 2, Dec: 3, Lo: n, Hi: 110})
	}
	for _, n := range []int64{maxPlace + 1, great} {
		l = append(l, api.Limits{Vel: 5, Acc: 2, Dec: 3, Lo: -100, Hi: n})
	}
	return l
}

// speeds are those of a search.
type speeds struct{ fast, creep int64 }

func rightSpeeds() []speeds {
	return []speeds{{1, 1}, {-1, -1}, {4, 1}, {-4, -1}, {4, 4}, {-4, -4}, {maxSpeed, 1}, {-maxSpeed, -1}, {maxSpeed, maxSpeed}, {-maxSpeed, -maxSpeed}}
}

func wrongSpeeds() []speeds {
	return []speeds{
		{0, 0}, {0, 1}, {1, 0}, {4, -1}, {-4, 1}, {4, 5}, {-4, -5}, {maxSpeed + 1, 1}, {-maxSpeed - 1, -1},
		{maxSpeed + 1, maxSpeed + 1}, {maxSpeed, maxSpeed + 1}, {great, 1}, {least, -1}, {least, least},
	}
}

// P15.1: each argument at its bounds, by itself and with the others.
func TestNew(t *testing.T) {
	for _, l := range rightLimits() {
		for window := 1; window <= 16; window++ {
			tryMade(t, parts{l, window, 10, 4, 1})
		}
		for _, s := range rightSpeeds() {
			tryMade(t, parts{l, 3, 10, s.fast, s.creep})
		}
		tryMade(t, parts{l, 2, l.Lo, 4, 1})
		tryMade(t, parts{l, 2, l.Hi, 4, 1})
		tryUnmade(t, parts{l, 2, l.Lo - 1, 4, 1})
		tryUnmade(t, parts{l, 2, l.Hi + 1, 4, 1})
	}
}

// P15.1: each argument beyond its bounds, by itself and in several at once.
func TestNewWrong(t *testing.T) {
	right := parts{small, 1, 10, 4, 1}
	wrong := []parts{}
	for _, l := range wrongLimits() {
		wrong = append(wrong, parts{l, 1, 10, 4, 1})
	}
	for _, window := range []int{math.MinInt, -16, -1, 0, 17, 18, 32, 257, 1<<32 + 1, math.MaxInt} {
		wrong = append(wrong, parts{small, window, 10, 4, 1})
	}
	for _, home := range []int64{least, -maxPlace, -101, 111, maxPlace, great} {
		wrong = append(wrong, parts{small, 1, home, 4, 1})
	}
	for _, s := range wrongSpeeds() {
		wrong = append(wrong, parts{small, 1, 10, s.fast, s.creep})
	}
	tryMade(t, right)
	for _, p := range wrong {
		tryUnmade(t, p)
		tryUnmade(t, parts{p.l, 0, p.home, p.fast, p.creep})
		tryUnmade(t, parts{p.l, p.window, 111, p.fast, p.creep})
		tryUnmade(t, parts{p.l, p.window, p.home, 4, -1})
	}
}

// P15.1: the place of its home switch is no bound of where it is made.
func TestNewAwayFrom0(t *testing.T) {
	tryMade(t, parts{api.Limits{Vel: 5, Acc: 2, Dec: 3, Lo: 50, Hi: 60}, 2, 50, 4, 1})
	tryMade(t, parts{api.Limits{Vel: 5, Acc: 2, Dec: 3, Lo: -60, Hi: -50}, 2, -50, -4, -1})
}

// P15.1: its limits, or all places, as long as it isn't homed.
func TestBounds(t *testing.T) {
	for _, l := range rightLimits() {
		for _, state := range states() {
			a := api.Axis{State: state, Limits: l}
			if b := Bounds(a); b != (api.Limits{Vel: l.Vel, Acc: l.Acc, Dec: l.Dec, Lo: -maxPlace, Hi: maxPlace}) {
				t.Errorf("Bounds of %v, not homed: %v", l, b)
			}
			a.Homed = true
			if b := Bounds(a); b != l {
				t.Errorf("Bounds of %v, homed: %v", l, b)
			}
			if a.Limits != l {
				t.Error("the limits are changed", a.Limits, l)
			}
		}
	}
}

// P15.1: the sum of the window, and its cycles times Offset.
func TestOut(t *testing.T) {
	for _, c := range []struct {
		last   []int64
		offset int64
		out    int64
	}{
		{[]int64{7}, 0, 7},
		{[]int64{7}, 5, 12},
		{[]int64{7}, -5, 2},
		{[]int64{-7}, 5, -2},
		{[]int64{0}, 0, 0},
		{[]int64{7, 6, 4}, 0, 17},
		{[]int64{7, 6, 4}, 5, 32},
		{[]int64{7, 6, 4}, -5, 2},
		{[]int64{7, 6, 4}, -6, -1},
		{[]int64{-7, -6, -4}, -6, -35},
		{[]int64{1, 1, 1, 1, 1, 1, 1, 1, 1, 1, 1, 1, 1, 1, 1, 1}, 2, 48},
		{slices.Repeat([]int64{maxPlace}, 16), maxOffset, 16*maxOffset + 16*maxPlace},
		{slices.Repeat([]int64{-maxPlace}, 16), -maxOffset, -16*maxOffset - 16*maxPlace},
		{slices.Repeat([]int64{maxPlace}, 16), -maxOffset, -16*maxOffset + 16*maxPlace},
		{[]int64{maxPlace}, maxOffset, maxOffset + maxPlace},
	} {
		a := placed(made(t, len(c.last)), c.last[0], 0)
		a.Smooth.Last, a.Offset = c.last, c.offset
		given := lent(a)
		if out := Out(given); out != c.out || !Right(a) {
			t.Errorf("Out of %v, %d: %d, not %d", c.last, c.offset, out, c.out)
		}
		if !same(given, a) || !untouched(given) {
			t.Error("what is given to Out is changed", given)
		}
	}
}

// tryRight asks whether an axis is right, and whether Right leaves it as it is.
func tryRight(t *testing.T, a api.Axis, want bool, why ...any) {
	t.Helper()
	given := lent(a)
	if got := Right(given); got != want {
		t.Errorf("%v: Right of %+v: %v", why, a, got)
	}
	if !same(given, a) || !untouched(given) {
		t.Error("what is given to Right is changed", given)
	}
}

// each right axis of a length of window: one of each state, standing still and not.
func rightAxes(t *testing.T, window int) []api.Axis {
	t.Helper()
	l := []api.Axis{}
	for _, state := range states() {
		for _, vel := range []int64{0, 5, -5} {
			l = append(l, inState(going(t, window, 7, vel), state))
		}
	}
	return l
}

// P15.2: one of each state is right, and so is one that was made.
func TestRight(t *testing.T) {
	for _, window := range windows() {
		tryRight(t, made(t, window), true)
		for _, a := range rightAxes(t, window) {
			tryRight(t, a, true)
		}
	}
	tryRight(t, api.Axis{}, false)
}

// P15.2: the states, and what is none. An axis with an empty line has one of four.
func TestRightState(t *testing.T) {
	a := ready(t, 2, 7)
	for state := -1; state <= 8; state++ {
		a.State = state
		tryRight(t, a, state == disabled || state == standstill || state == errStop || state == stopping, state)
	}
	for _, state := range []int{math.MinInt, -8, -7, 9, 15, 16, 256, 257, 1<<32 + 1, math.MaxInt} {
		a.State = state
		tryRight(t, a, false, state)
	}
}

// P15.2: limits, window, home place and speeds such as New takes, in each state.
func TestRightParts(t *testing.T) {
	for _, a := range rightAxes(t, 3) {
		for _, l := range wrongLimits() {
			b := a
			b.Limits = l
			tryRight(t, b, false, "limits")
		}
		for _, n := range []int64{least, -101, 111, great} {
			b := a
			b.HomeAt = n
			tryRight(t, b, false, "home place")
		}
		for _, n := range []int64{-100, 0, 110} {
			b := a
			b.HomeAt = n
			tryRight(t, b, true, "home place")
		}
		for _, s := range wrongSpeeds() {
			b := a
			b.Fast, b.Creep = s.fast, s.creep
			tryRight(t, b, false, "speeds")
		}
		for _, s := range rightSpeeds() {
			b := a
			b.Fast, b.Creep = s.fast, s.creep
			tryRight(t, b, true, "speeds")
		}
	}
}

// P15.2: the window has as many places as Window, 1 to 16.
func TestRightWindow(t *testing.T) {
	for n := 0; n <= 18; n++ {
		for window := -1; window <= 18; window++ {
			a := ready(t, 1, 7)
			a.Window = window
			a.Smooth.Last = slices.Repeat([]int64{7}, n)
			tryRight(t, a, n == window && n >= 1 && n <= 16, n, window)
		}
	}
	a := ready(t, 1, 7)
	a.Window = 1<<32 + 1
	tryRight(t, a, false)
}

// P15.2: the newest place is the axis' own, and each one unlike the next by at most MaxVel.
func TestRightPlaces(t *testing.T) {
	for _, c := range []struct {
		pos  int64
		last []int64
		want bool
	}{
		{7, []int64{7}, true}, {7, []int64{8}, false}, {7, []int64{6}, false}, {7, []int64{-7}, false},
		{7, []int64{7, 8}, true}, {7, []int64{8, 7}, false}, {7, []int64{6, 7, 7}, false},
		{7, []int64{7, 7 + maxSpeed}, true}, {7, []int64{7, 8 + maxSpeed}, false},
		{7, []int64{7, 7 - maxSpeed}, true}, {7, []int64{7, 6 - maxSpeed}, false},
		{7, []int64{7, 7 + maxSpeed, 7, 7 + maxSpeed}, true}, {7, []int64{7, 7, 7, 8 + maxSpeed}, false}, {7, []int64{7, 7, 7, 6 - maxSpeed}, false},
		{7, []int64{7, 7, 8 + maxSpeed, 7}, false}, {7, []int64{7, 7, 8 + maxSpeed, 8 + maxSpeed}, false},
		{7, []int64{7, 7 + maxSpeed, 7 + 2*maxSpeed, 7 + 3*maxSpeed}, true}, {7, []int64{7, 7 - maxSpeed, 7 - 2*maxSpeed, 7 - 3*maxSpeed}, true},
		{maxPlace, []int64{maxPlace, maxPlace + maxSpeed}, true}, {-maxPlace, []int64{-maxPlace, -maxPlace - maxSpeed}, true},
		{7, []int64{7, great}, false}, {7, []int64{7, least}, false}, {-7, []int64{-7, great}, false}, {-7, []int64{-7, least}, false},
		{7, []int64{7, 2*maxPlace + 1}, false}, {7, []int64{7, -2*maxPlace - 1}, false},
	} {
		a := placed(made(t, len(c.last)), c.pos, 0)
		a.Smooth.Last = c.last
		tryRight(t, a, c.want, c.last)
	}
}

// P15.2: the generator is safe within the bounds, homed and not.
func TestRightGenerator(t *testing.T) {
	// From 5, by 3, it takes 2 more to stop, from 7: 4 and 1; from 9: 6 and 3.
	for _, c := range []struct {
		pos, vel int64
		homed    bool
		free     bool
	}{
		{110, 0, true, true}, {111, 0, false, true}, {-100, 0, true, true}, {-101, 0, false, true},
		{108, 5, true, true}, {109, 5, false, true}, {-98, -5, true, true}, {-99, -5, false, true},
		{109, -5, true, true}, {-99, 5, true, true},
		{105, 7, true, true}, {106, 7, false, true}, {-95, -7, true, true}, {-96, -7, false, true},
		{101, 9, true, true}, {102, 9, false, true}, {-91, -9, true, true}, {-92, -9, false, true},
		{maxPlace, 0, false, true}, {maxPlace + 1, 0, false, false}, {-maxPlace, 0, false, true}, {-maxPlace - 1, 0, false, false},
		{maxPlace - 2, 5, false, true}, {maxPlace - 1, 5, false, false}, {-maxPlace + 2, -5, false, true}, {-maxPlace + 1, -5, false, false},
		{0, maxSpeed, false, true}, {0, -maxSpeed, false, true}, {0, maxSpeed + 1, false, false}, {0, -maxSpeed - 1, false, false},
		{0, great, false, false}, {0, least, false, false},
	} {
		a := going(t, 2, c.pos, c.vel)
		tryRight(t, a, c.homed, "homed", c)
		a.Homed = false
		tryRight(t, a, c.free, "not homed", c)
	}
}

// P15.2: Override and Offset at both ends, in each state.
func TestRightNumbers(t *testing.T) {
	for _, a := range rightAxes(t, 2) {
		for _, n := range []int{math.MinInt, -100, -1, 0, 1, 50, 99, 100, 101, 255, 256, 1 << 32, math.MaxInt} {
			b := a
			b.Override = n
			tryRight(t, b, n >= 0 && n <= 100, "override", n)
		}
		for _, n := range []int64{-maxOffset, -maxOffset + 1, -1, 0, 1, maxOffset - 1, maxOffset} {
			b := a
			b.Offset = n
			tryRight(t, b, true, "offset", n)
		}
		for _, n := range []int64{least, -maxOffset - 1, maxOffset + 1, great} {
			b := a
			b.Offset = n
			tryRight(t, b, false, "offset", n)
		}
	}
}

// P15.2: a search that isn't right counts in Homing alone.
func TestRightSearch(t *testing.T) {
	wrong := []api.Home{{}, {Phase: -1, Fast: 4, Creep: 1}, {Phase: 6, Fast: 4, Creep: 1}, {Phase: 1, Fast: 4, Creep: -1}, {Phase: 1, Fast: 1, Creep: 2}, {Phase: 1, Fast: maxSpeed + 1, Creep: 2}}
	for _, a := range rightAxes(t, 2) {
		for _, h := range wrong {
			b := a
			b.Home = h
			tryRight(t, b, a.State != homing, "search", h)
		}
		for phase := 0; phase <= 5; phase++ {
			for _, s := range rightSpeeds() {
				b := a
				b.Home = api.Home{Phase: phase, Fast: s.fast, Creep: s.creep, Turned: phase == 2}
				tryRight(t, b, true, "search", b.Home)
			}
		}
	}
}

// P15.2: nothing else of an axis is asked.
func TestRightOthers(t *testing.T) {
	for _, a := range rightAxes(t, 2) {
		for _, n := range []int64{least, -1, 0, 1, great} {
			b := a
			b.Start, b.Master, b.Cause, b.InStep = n, -n, int(n), n > 0
			tryRight(t, b, true)
		}
	}
}

// commands are one of each kind, and of two that are none; with a Speed, a Target and a Den that are right of each.
func ofKinds(mode int) []api.Command {
	l := []api.Command{}
	for kind := 0; kind <= 9; kind++ {
		l = append(l, api.Command{ID: 1, Kind: kind, Target: 20, Speed: 3, Mode: mode, Num: 1, Den: 1})
	}
	return l
}

// kindOf is the kind of the one command that each state has; 0: none.
func kindOf(state int) []int {
	switch state {
	case homing:
		return []int{api.CmdHome}
	case stopping:
		return []int{api.CmdStop}
	case discrete:
		return []int{api.CmdAbs, api.CmdHalt}
	case continuous:
		return []int{api.CmdSpeed}
	case synced:
		return []int{api.CmdGear}
	}
	return nil
}

// P15.2: of each state each kind of command, alone and with another one behind it, and no command at all.
func TestRightLineOfEachState(t *testing.T) {
	for _, state := range states() {
		a := inState(ready(t, 2, 7), state)
		for mode := -1; mode <= 6; mode++ {
			modal := mode >= 0 && mode <= 5
			for _, now := range ofKinds(mode) {
				fits := modal && slices.Contains(kindOf(state), now.Kind)
				tryRight(t, under(a, state, now), fits, state, now)
				for _, next := range append(ofKinds(1), ofKinds(0)...) {
					both := fits && now.Kind == api.CmdAbs && next.Kind == api.CmdAbs && next.Mode == 1
					tryRight(t, under(a, state, now, next), both, state, now, next)
				}
			}
		}
		a.Line = api.Line{}
		tryRight(t, a, state == stopping || kindOf(state) == nil, state, "no command")
		a.Line = api.Line{Wait: []api.Command{move(1, 20, 3, 1)}}
		tryRight(t, a, false, state, "one waits for nothing")
		for _, now := range ofKinds(0) {
			a.Line = api.Line{Now: []api.Command{now, now}}
			tryRight(t, a, false, state, now, "two under way")
		}
	}
}

// P15.2: the moves of Discrete, under way and waiting at each place: their speeds, places and modes.
func TestRightMoves(t *testing.T) {
	a := ready(t, 2, 7)
	for _, c := range []struct {
		d     api.Command
		homed bool
		free  bool
	}{
		{move(9, 20, 1, 1), true, true}, {move(9, 20, 5, 1), true, true},
		{move(9, 20, 0, 1), false, false}, {move(9, 20, 6, 1), false, false}, {move(9, 20, -1, 1), false, false}, {move(9, 20, least, 1), false, false}, {move(9, 20, great, 1), false, false},
		{move(9, 110, 3, 1), true, true}, {move(9, 111, 3, 1), false, true}, {move(9, -100, 3, 1), true, true}, {move(9, -101, 3, 1), false, true},
		{move(9, maxPlace, 3, 1), false, true}, {move(9, maxPlace+1, 3, 1), false, false}, {move(9, -maxPlace, 3, 1), false, true}, {move(9, -maxPlace-1, 3, 1), false, false},
		{move(9, great, 3, 1), false, false}, {move(9, least, 3, 1), false, false},
		{move(9, 20, 3, 2), true, true}, {move(9, 20, 3, 5), true, true}, {move(9, 20, 3, 6), false, false}, {move(9, 20, 3, -1), false, false},
		{api.Command{ID: 9, Kind: api.CmdRel, Target: 1, Speed: 3, Mode: 1}, false, false}, {api.Command{ID: 9, Kind: api.CmdAdd, Target: 1, Speed: 3, Mode: 1}, false, false},
	} {
		for at := range 5 {
			row := []api.Command{move(1, 20, 3, 0), move(2, 30, 3, 1), move(3, 40, 3, 1), move(4, 50, 3, 1), move(5, 60, 3, 1)}
			row[at] = c.d
			for n := at + 1; n <= 5; n++ {
				b := under(a, discrete, row[0], row[1:n]...)
				tryRight(t, b, c.homed, "homed", at, c.d)
				b.Homed = false
				tryRight(t, b, c.free, "not homed", at, c.d)
			}
		}
	}
}

// P15.2: four may wait, and none of them aborts.
func TestRightWaiting(t *testing.T) {
	row := []api.Command{move(2, 30, 3, 1), move(3, 40, 3, 1), move(4, 50, 3, 1), move(5, 60, 3, 1), move(6, 60, 3, 1)}
	for n := range 6 {
		a := under(ready(t, 2, 7), discrete, move(1, 20, 3, 0), row[:n]...)
		tryRight(t, a, n <= 4, n)
		for i := range min(n, 4) {
			b := copied(a)
			b.Line.Wait[i].Mode = 0
			tryRight(t, b, false, n, i)
		}
	}
}

// P15.2: the speeds of Continuous, the ratios of Synced, and a halt of any numbers.
func TestRightOnesAlone(t *testing.T) {
	a := ready(t, 2, 7)
	for _, v := range []int64{1, 2, 5, -1, -5} {
		tryRight(t, under(a, continuous, api.Command{Kind: api.CmdSpeed, Speed: v}), true, v)
	}
	for _, v := range []int64{0, 6, -6, great, least, least + 1} {
		tryRight(t, under(a, continuous, api.Command{Kind: api.CmdSpeed, Speed: v}), false, v)
	}
	for _, n := range []int64{least, -1, 0, 1, great} {
		tryRight(t, under(a, synced, api.Command{Kind: api.CmdGear, Num: n, Den: 1, Target: n, Speed: n}), true, n)
		tryRight(t, under(a, synced, api.Command{Kind: api.CmdGear, Num: 1, Den: n}), n > 0, n)
		tryRight(t, under(a, discrete, api.Command{Kind: api.CmdHalt, Num: n, Den: n, Target: n, Speed: n}), true, n)
		tryRight(t, under(a, stopping, api.Command{Kind: api.CmdStop, Num: n, Den: n, Target: n, Speed: n}), true, n)
		tryRight(t, under(inState(a, homing), homing, api.Command{Kind: api.CmdHome, Num: n, Den: n, Target: n, Speed: n}), true, n)
	}
}

// wrongAxes are each wrong in one part.
func wrongAxes(t *testing.T) []api.Axis {
	t.Helper()
	l := []api.Axis{{}}
	for _, a := range rightAxes(t, 3) {
		for i := range 12 {
			b := copied(a)
			switch i {
			case 0:
				b.State = 8
			case 1:
				b.State = -1
			case 2:
				b.Limits.Vel = 0
			case 3:
				b.Window = 2
			case 4:
				b.HomeAt = 111
			case 5:
				b.Creep = 5
			case 6:
				b.Gen.Pos = 8
			case 7:
				b.Smooth.Last[2] = 8 + maxSpeed
			case 8:
				b.Override = 101
			case 9:
				b.Offset = maxOffset + 1
			case 10:
				b.Line.Now = append(b.Line.Now, move(1, 20, 3, 0), move(2, 20, 3, 0))
			case 11:
				b.Smooth.Last = nil
			}
			l = append(l, b)
		}
	}
	return l
}

// P15.2: an axis that isn't right stays as it is, whatever comes, and tells nothing.
func TestStepOfWrongAxes(t *testing.T) {
	fault := api.In{Cause: api.CauseScan, Override: 7}
	for _, a := range wrongAxes(t) {
		tryRight(t, a, false)
		for _, in := range []api.In{{}, on, with(move(9, 20, 3, 0), api.Command{ID: 10, Kind: api.CmdStop}), fault, {Reset: true, Release: true, Op: true, Plus: true, Minus: true, Home: true, Override: 101}} {
			if n, l := step(t, a, in); !same(n, a) || len(l) != 0 {
				t.Errorf("%+v\nis, behind a step, %+v %v", a, n, l)
			}
		}
	}
}
