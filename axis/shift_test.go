package axis

import (
	"testing"

	"servitor/api"
)

// shift is Shift, held to what holds of each of them.
func shift(t *testing.T, a api.Axis, place int64) (api.Axis, api.Errno) {
	t.Helper()
	given := lent(a)
	n, e := Shift(given, place)
	answer := copied(n)
	apart(t, given, a, n)
	return answer, e
}

// tryShift asks for the axis at another place, whose drive is told the same.
func tryShift(t *testing.T, a api.Axis, place int64) {
	t.Helper()
	want := placed(a, place, 0)
	want.Offset = a.Offset - (place - a.Gen.Pos)
	n, e := shift(t, a, place)
	if e != api.OK || !same(n, want) || !Right(n) {
		t.Errorf("Shift of %+v to %d:\n%+v %v, not\n%+v", a, place, n, e, want)
	}
	if Out(n) != Out(a) {
		t.Errorf("Shift of %+v to %d: its drive is told %d, not %d", a, place, Out(n), Out(a))
	}
}

// tryNoShift asks for nothing but an error.
func tryNoShift(t *testing.T, a api.Axis, place int64, want api.Errno) {
	t.Helper()
	if n, e := shift(t, a, place); e != want || !same(n, api.Axis{}) {
		t.Errorf("Shift of %+v to %d: %+v %v, not %v", a, place, n, e, want)
	}
}

// idle are axes of each state that has no command, which stand still.
func idle(t *testing.T, window int, pos int64) []api.Axis {
	t.Helper()
	l := []api.Axis{}
	for _, state := range []int{disabled, standstill, stopping, errStop} {
		a := inState(ready(t, window, pos), state)
		a.Line = api.Line{}
		l = append(l, a)
	}
	return l
}

// P15.3: upwards, downwards and not at all, at the bounds and one beyond, homed and not.
func TestShift(t *testing.T) {
	for _, window := range windows() {
		for _, a := range idle(t, window, 7) {
			for _, offset := range []int64{0, 1000, -1000} {
				a.Offset, a.Homed = offset, true
				for _, place := range []int64{7, 8, 6, 0, -7, 50, -50, 110, -100} {
					tryShift(t, a, place)
				}
				for _, place := range []int64{111, -101, maxPlace, -maxPlace, maxPlace + 1, great, least, least + 7, great - 7} {
					tryNoShift(t, a, place, api.ErrArg)
				}
				a.Homed = false
				for _, place := range []int64{7, 110, 111, -100, -101, maxPlace - 1, maxPlace, -maxPlace} {
					tryShift(t, a, place)
				}
				for _, place := range []int64{maxPlace + 1, -maxPlace - 1, 2 * maxPlace, -2 * maxPlace, great, least} {
					tryNoShift(t, a, place, api.ErrArg)
				}
			}
		}
	}
}

// P15.3: from one end of all places to the other.
func TestShiftFromEndToEnd(t *testing.T) {
	for _, window := range []int{1, 16} {
		a := ready(t, window, maxPlace)
		a.Homed = false
		tryShift(t, a, -maxPlace)
		tryShift(t, placed(a, -maxPlace, 0), maxPlace)
		tryShift(t, placed(a, -maxPlace, 0), -maxPlace)
	}
}

// P15.3: Offset at both ends of its range, and one beyond.
func TestShiftOffset(t *testing.T) {
	for _, a := range idle(t, 2, 7) {
		for _, c := range []struct {
			offset, place int64
			ok            bool
		}{
			{maxOffset, 7, true}, {maxOffset, 8, true}, {maxOffset, 6, false}, {maxOffset - 1, 6, true}, {maxOffset - 1, 5, false}, {maxOffset, -100, false},
			{-maxOffset, 7, true}, {-maxOffset, 6, true}, {-maxOffset, 8, false}, {-maxOffset + 1, 8, true}, {-maxOffset + 1, 9, false}, {-maxOffset, 110, false},
			{-maxOffset + 103, 110, true}, {-maxOffset + 102, 110, false}, {maxOffset - 107, -100, true}, {maxOffset - 106, -100, false},
		} {
			a.Offset = c.offset
			if c.ok {
				tryShift(t, a, c.place)
			} else {
				tryNoShift(t, a, c.place, api.ErrArg)
			}
		}
	}
}

// P15.3: an axis that isn't right, also one that moves besides.
func TestShiftOfWrongAxes(t *testing.T) {
	for _, a := range wrongAxes(t) {
		for _, place := range []int64{7, 8, 0, 50, 111, great} {
			tryNoShift(t, a, place, api.ErrArg)
		}
	}
}

// P15.3: an axis with a speed, or whose window doesn't rest, whatever the place.
func TestShiftOfOneThatMoves(t *testing.T) {
	for _, a := range idle(t, 3, 7) {
		for _, place := range []int64{7, 8, 50, 110, 111, maxPlace + 1, least, great} {
			for _, vel := range []int64{5, 1, -1, -5} {
				b := copied(a)
				b.Gen.Vel = vel
				tryNoShift(t, b, place, api.ErrState)
			}
			for i := range 2 {
				b := copied(a)
				b.Smooth.Last[1+i] = 8
				tryNoShift(t, b, place, api.ErrState)
				b.Smooth.Last[1+i] = 6
				tryNoShift(t, b, place, api.ErrState)
			}
			b := copied(a)
			b.Smooth.Last = []int64{7, 8, 8}
			tryNoShift(t, b, place, api.ErrState)
		}
	}
}

// P15.3: an axis with a command under way, though it stands still.
func TestShiftWithCommands(t *testing.T) {
	for _, state := range []int{homing, stopping, discrete, continuous, synced} {
		a := inState(ready(t, 2, 7), state)
		for _, place := range []int64{7, 8, 50, 111, maxPlace + 1, least, great} {
			tryNoShift(t, a, place, api.ErrState)
			b := a
			b.Offset = maxOffset
			tryNoShift(t, b, place, api.ErrState)
		}
	}
	tryNoShift(t, under(ready(t, 2, 7), discrete, api.Command{ID: 1, Kind: api.CmdHalt}), 8, api.ErrState)
}

// P15.3: what is told goes on from where it was, and moves go to the new places.
func TestMovesBehindShift(t *testing.T) {
	a, e := Shift(ready(t, 2, 7), 50)
	if e != api.OK {
		t.Fatal(e)
	}
	a = tryRun(t, a, with(move(1, 55, 5, 0)), []int64{52, 55, 55}, event{1, 1, active}, event{3, 1, done})
	if a.Gen.Pos != 55 || Out(a) != 24 {
		t.Error(a, Out(a))
	}
}
