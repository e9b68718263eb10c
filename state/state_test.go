package state

import (
	"maps"
	"math"
	"slices"
	"testing"

	"servitor/api"
)

// The states' numbers, and those of what happens, are written out here, as the document has them.
const (
	disabled, standstill, homing, stopping = 0, 1, 2, 3
	discrete, continuous, synced, inError  = 4, 5, 6, 7

	power, off, home, homed, move, speed        = 1, 2, 3, 4, 5, 6
	follow, stop, stopped, done, failure, reset = 7, 8, 9, 10, 11, 12
)

func states() []int {
	return []int{disabled, standstill, homing, stopping, discrete, continuous, synced, inError}
}

func events() []int {
	return []int{power, off, home, homed, move, speed, follow, stop, stopped, done, failure, reset}
}

// moves are what happens when a command to move begins.
func moves() []int { return []int{home, move, speed, follow} }

// noStates are numbers of no state; some are one by their lower bits.
func noStates() []int { return farNumbers(-1, 8, 9, 10, 11, 12, 13, 15, 16) }

// noEvents are numbers of nothing that happens; some are such a one by their lower bits.
func noEvents() []int { return farNumbers(-1, 0, 13, 14, 15, 16, 17) }

// farNumbers are these and some that are far below 0, or far above it.
func farNumbers(near ...int) []int {
	l := near
	for n := range 20 {
		for _, end := range []int{math.MinInt, -1 << 62, -1 << 32, -1 << 31, -1 << 16, -256, -128, -64, -32} {
			l = append(l, end+n)
		}
		for _, end := range []int{32, 64, 128, 256, 1 << 16, 1 << 31, 1 << 32, 1 << 62} {
			l = append(l, end+n)
		}
		l = append(l, -2-n, math.MaxInt-n)
	}
	return l
}

// table is the chapter's, row by row: from each state, where what happens leads.
func table() map[int]map[int]int {
	return map[int]map[int]int{
		disabled:   {power: standstill, failure: inError},
		standstill: {off: disabled, home: homing, move: discrete, speed: continuous, follow: synced, stop: stopping, failure: inError},
		homing:     {homed: standstill, stop: stopping, off: disabled, failure: inError},
		stopping:   {stopped: standstill, off: disabled, failure: inError},
		discrete:   {done: standstill, move: discrete, speed: continuous, follow: synced, stop: stopping, off: disabled, failure: inError},
		continuous: {done: standstill, move: discrete, speed: continuous, follow: synced, stop: stopping, off: disabled, failure: inError},
		synced:     {done: standstill, move: discrete, speed: continuous, follow: synced, stop: stopping, off: disabled, failure: inError},
		inError:    {reset: standstill, off: disabled, failure: inError},
	}
}

// P11.1: the names in api stand for the document's numbers.
func TestNames(t *testing.T) {
	if !slices.Equal([]int{api.Disabled, api.Standstill, api.Homing, api.Stopping, api.Discrete, api.Continuous, api.Synced, api.ErrorStop}, states()) {
		t.Error("states")
	}
	if !slices.Equal([]int{api.EvPower, api.EvOff, api.EvHome, api.EvHomed, api.EvMove, api.EvSpeed, api.EvSync, api.EvStop, api.EvStopped, api.EvDone, api.EvError, api.EvReset}, events()) {
		t.Error("what happens")
	}
}

// tryNext: this leads there.
func tryNext(t *testing.T, from, event, to int) {
	t.Helper()
	if s, ok := Next(from, event); s != to || !ok {
		t.Errorf("Next(%d, %d): %d, %t, not %d, true", from, event, s, ok, to)
	}
}

// tryNowhere: this leads nowhere.
func tryNowhere(t *testing.T, from, event int) {
	t.Helper()
	if s, ok := Next(from, event); s != from || ok {
		t.Errorf("Next(%d, %d): %d, %t, not %d, false", from, event, s, ok, from)
	}
}

// P11.1: each state, with each thing that happens.
func TestTable(t *testing.T) {
	for _, from := range states() {
		for _, event := range events() {
			if to, ok := table()[from][event]; ok {
				tryNext(t, from, event, to)
			} else {
				tryNowhere(t, from, event)
			}
		}
	}
}

// P11.1: the same by what happens: from which states it leads, and where.
func TestByEvent(t *testing.T) {
	for _, c := range []struct {
		event, to int
		from      []int
	}{
		{power, standstill, []int{disabled}},
		{off, disabled, []int{standstill, homing, stopping, discrete, continuous, synced, inError}},
		{home, homing, []int{standstill}},
		{homed, standstill, []int{homing}},
		{move, discrete, []int{standstill, discrete, continuous, synced}},
		{speed, continuous, []int{standstill, discrete, continuous, synced}},
		{follow, synced, []int{standstill, discrete, continuous, synced}},
		{stop, stopping, []int{standstill, homing, discrete, continuous, synced}},
		{stopped, standstill, []int{stopping}},
		{done, standstill, []int{discrete, continuous, synced}},
		{failure, inError, []int{disabled, standstill, homing, stopping, discrete, continuous, synced, inError}},
		{reset, standstill, []int{inError}},
	} {
		for _, from := range states() {
			if slices.Contains(c.from, from) {
				tryNext(t, from, c.event, c.to)
			} else {
				tryNowhere(t, from, c.event)
			}
		}
	}
}

// P11.1: the chapter's example.
func TestExample(t *testing.T) {
	if s, ok := Next(api.Stopping, api.EvMove); s != api.Stopping || ok {
		t.Errorf("%d, %t", s, ok)
	}
}

// P11.1: what is no state stays as it is, whatever happens.
func TestNextOfNoState(t *testing.T) {
	for _, from := range noStates() {
		for _, event := range append(events(), noEvents()...) {
			tryNowhere(t, from, event)
		}
	}
}

// P11.1: what is nothing that happens leads nowhere.
func TestNextOfNoEvent(t *testing.T) {
	for _, from := range states() {
		for _, event := range noEvents() {
			tryNowhere(t, from, event)
		}
	}
}

// P11.1: the numbers next to those that are some, and both ends, written out.
func TestNextOfNone(t *testing.T) {
	for _, c := range []struct{ from, event int }{
		{-1, power}, {8, failure}, {9, off}, {-1, failure}, {-1, off}, {8, reset}, {-7, stop},
		{math.MinInt, failure}, {math.MaxInt, failure}, {math.MinInt, power}, {math.MaxInt, off},
		{disabled, 0}, {disabled, -1}, {disabled, 13}, {standstill, 0}, {standstill, -3}, {inError, 0}, {inError, 13}, {inError, -12},
		{disabled, math.MinInt}, {disabled, math.MaxInt}, {synced, math.MinInt}, {synced, math.MaxInt},
		{-1, 0}, {8, 13}, {math.MinInt, math.MaxInt}, {math.MaxInt, math.MinInt},
	} {
		tryNowhere(t, c.from, c.event)
	}
}

// P11.2
func TestMovesAndTakes(t *testing.T) {
	for _, c := range []struct {
		state        int
		moves, takes bool
	}{
		{disabled, false, false},
		{standstill, false, true},
		{homing, true, false},
		{stopping, false, false},
		{discrete, true, true},
		{continuous, true, true},
		{synced, true, true},
		{inError, false, false},
	} {
		if b := Moves(c.state); b != c.moves {
			t.Errorf("Moves(%d): %t", c.state, b)
		}
		if b := Takes(c.state); b != c.takes {
			t.Errorf("Takes(%d): %t", c.state, b)
		}
	}
}

// P11.2: in what is no state an axis neither moves nor takes a command.
func TestMovesAndTakesOfNoState(t *testing.T) {
	for _, s := range noStates() {
		if Moves(s) || Takes(s) {
			t.Errorf("Moves(%d): %t, Takes: %t", s, Moves(s), Takes(s))
		}
	}
}

// P11.2, P11.3: a move to a place, one at a speed and following begin where a command to move is taken, and nowhere else.
func TestTakenWhereItLeads(t *testing.T) {
	for _, from := range append(states(), noStates()...) {
		for _, event := range []int{move, speed, follow} {
			if s, ok := Next(from, event); ok != Takes(from) || ok && !Moves(s) {
				t.Errorf("Next(%d, %d): %d, %t; Takes: %t", from, event, s, ok, Takes(from))
			}
		}
	}
}

// P11.3
func TestNoMoveLeadsOut(t *testing.T) {
	for _, from := range []int{stopping, inError, homing, disabled} {
		for _, event := range moves() {
			tryNowhere(t, from, event)
		}
	}
}

// P11.3: also by each row of commands to move.
func TestNoMovesLeadOut(t *testing.T) {
	for _, from := range []int{stopping, inError, homing, disabled} {
		s := from
		for n := range 1000 {
			s, _ = Next(s, moves()[n*n/7%4])
		}
		if s != from {
			t.Errorf("from %d to %d", from, s)
		}
	}
}

// P11.3
func TestOutOfErrorStop(t *testing.T) {
	for _, event := range append(events(), noEvents()...) {
		want := inError
		switch event {
		case reset:
			want = standstill
		case off:
			want = disabled
		}
		if s, _ := Next(inError, event); s != want {
			t.Errorf("Next(%d, %d): %d, not %d", inError, event, s, want)
		}
	}
}

// P11.3
func TestErrorFromEverywhere(t *testing.T) {
	for _, from := range states() {
		tryNext(t, from, failure, inError)
	}
}

// history is what a row of things that happened has in it.
type history struct{ powered, failed, restored bool }

// with is the history with one thing more.
func (h history) with(event int) history {
	return history{
		powered:  h.powered || event == power,
		failed:   event == failure || h.failed && event != off,
		restored: h.restored || h.failed && event == reset,
	}
}

// tryOne thing that happens, behind a row that led from Disabled to a state; it answers the state behind it.
func tryOne(t *testing.T, known map[int]map[int]int, from, event int, h history) int {
	t.Helper()
	s, ok := Next(from, event)
	to, named := known[from][event]
	if !named {
		to = from
	}
	if s != to || ok != named {
		t.Fatalf("Next(%d, %d): %d, %t, not %d, %t", from, event, s, ok, to, named)
	}
	if !slices.Contains(states(), s) {
		t.Fatalf("Next(%d, %d): %d is no state", from, event, s)
	}
	// The table has a second way out of Disabled: an error, and a reset behind it.
	if !h.powered && !h.restored && s != disabled && s != inError {
		t.Fatalf("Next(%d, %d): %d, ahead of all power", from, event, s)
	}
	return s
}

// tryRow of things that happen, from Disabled on.
func tryRow(t *testing.T, known map[int]map[int]int, row []int) {
	t.Helper()
	s, h := disabled, history{}
	for _, event := range row {
		h = h.with(event)
		s = tryOne(t, known, s, event, h)
	}
}

// tryEach row that goes on from here by so many things more.
func tryEach(t *testing.T, known map[int]map[int]int, s int, h history, more int) {
	t.Helper()
	if more == 0 {
		return
	}
	for event := range 14 {
		next := h.with(event)
		tryEach(t, known, tryOne(t, known, s, event, next), next, more-1)
	}
}

// P11.3: each row of five, 0 and 13 among them, which are nothing that happens.
func TestEachShortRow(t *testing.T) {
	tryEach(t, table(), disabled, history{}, 5)
}

// mixed goes on from a number to the next one of a row that looks like chance, and is none.
func mixed(n uint64) uint64 { return n*6364136223846793005 + 1442695040888963407 }

// longRow of some of these things, in an order of its kind.
func longRow(kind uint64, some []int) []int {
	row := []int{}
	for n := mixed(kind); len(row) < 2000; n = mixed(n) {
		row = append(row, some[n>>33%uint64(len(some))])
	}
	return row
}

// without one thing: all others that happen.
func without(event int) []int {
	return slices.DeleteFunc(events(), func(e int) bool { return e == event })
}

// P11.3: long rows: of all things, and of all but one.
func TestLongRows(t *testing.T) {
	for kind := range uint64(20) {
		tryRow(t, table(), longRow(kind, events()))
		tryRow(t, table(), longRow(kind, append(events(), noEvents()...)))
		for _, event := range events() {
			tryRow(t, table(), longRow(kind, without(event)))
		}
	}
}

// P11.3: long rows, of which one without an error comes to each state but ErrorStop, and one without power and reset comes to Disabled and ErrorStop alone.
func TestWhereLongRowsCome(t *testing.T) {
	for _, c := range []struct{ some, want []int }{
		{events(), states()},
		{without(failure), []int{disabled, standstill, homing, stopping, discrete, continuous, synced}},
		{without(reset), states()},
		{without(power), states()},
		{slices.DeleteFunc(without(power), func(e int) bool { return e == reset }), []int{disabled, inError}},
		{slices.DeleteFunc(without(power), func(e int) bool { return e == failure }), []int{disabled}},
	} {
		come, s := map[int]int{disabled: 1}, disabled
		for _, event := range longRow(7, c.some) {
			s, _ = Next(s, event)
			come[s]++
		}
		if got := slices.Sorted(maps.Keys(come)); !slices.Equal(got, c.want) {
			t.Errorf("by %v: %v, not %v", c.some, got, c.want)
		}
	}
}

// P11.3: some rows, written out.
func TestSomeRows(t *testing.T) {
	for _, c := range []struct{ row, want []int }{
		{[]int{home, move, speed, follow, stop, off, done, reset, homed, stopped}, []int{disabled, disabled, disabled, disabled, disabled, disabled, disabled, disabled, disabled, disabled}},
		{[]int{power, home, move, homed, home, stop, stopped}, []int{standstill, homing, homing, standstill, homing, stopping, standstill}},
		{[]int{power, move, speed, follow, move, done, done}, []int{standstill, discrete, continuous, synced, discrete, standstill, standstill}},
		{[]int{power, speed, stop, move, stop, stopped, move}, []int{standstill, continuous, stopping, stopping, stopping, standstill, discrete}},
		{[]int{power, follow, failure, move, power, failure, reset, follow, off, follow}, []int{standstill, synced, inError, inError, inError, inError, standstill, synced, disabled, disabled}},
		{[]int{failure, off, failure, home, power, off, power}, []int{inError, disabled, inError, inError, inError, disabled, standstill}},
		// The table leads from an error to Standstill by a reset, also without power.
		{[]int{failure, reset, move}, []int{inError, standstill, discrete}},
	} {
		s, got := disabled, []int{}
		for _, event := range c.row {
			s, _ = Next(s, event)
			got = append(got, s)
		}
		if !slices.Equal(got, c.want) {
			t.Errorf("by %v: %v, not %v", c.row, got, c.want)
		}
	}
}

// Rule 4 of the document's 'Rules that hold everywhere': the same arguments answer the same, whatever was asked before.
func TestNothingIsKept(t *testing.T) {
	for range 5 {
		tryNext(t, standstill, home, homing)
		tryNext(t, disabled, failure, inError)
		tryNowhere(t, disabled, off)
		tryNowhere(t, -1, failure)
		if !Moves(homing) || Takes(homing) || Moves(standstill) || !Takes(standstill) {
			t.Error("Moves, Takes")
		}
	}
}
