package word

import (
	"math"
	"slices"
	"testing"

	"servitor/api"
)

// The states' numbers and the words' bits are written out here, as the document has them.
const (
	off, ready, on, op, fault = 0, 1, 2, 3, 4
)

func states() []int { return []int{off, ready, on, op, fault} }

func bothValues() []bool { return []bool{false, true} }

// noStates are numbers of no state; some are one by their lowest byte or their lower half.
func noStates() []int {
	l := []int{math.MinInt, math.MinInt + 1, math.MinInt + 4, math.MaxInt, math.MaxInt - 1, -1 << 32, 1 << 32, 1<<32 + 3, -1<<32 + 4, 1 << 31, -1 << 31, 1<<31 - 1, 1<<16 + 1, -65536, 65537, -256, -255, -253, -128, 127, 128, 255, 256, 257, 259, 260}
	for n := 1; n <= 20; n++ {
		l = append(l, -n, fault+n)
	}
	return l
}

// stateByBits is the state of the lowest four bits of a word, written out.
func stateByBits(low int) int {
	return [16]int{
		off, ready, off, on, off, ready, off, op,
		fault, fault, fault, fault, fault, fault, fault, fault,
	}[low]
}

// lowBits are the lowest four bits of a word, by its rest by 16, which is never below 0.
func lowBits(word int) int { return (word%16 + 16) % 16 }

// P6.1: the names in api stand for the document's numbers.
func TestNames(t *testing.T) {
	if !slices.Equal([]int{api.DriveOff, api.DriveReady, api.DriveOn, api.DriveOp, api.DriveFault}, states()) {
		t.Error("states")
	}
	if !slices.Equal([]int{api.BitReady, api.BitOn, api.BitOp, api.BitFault, api.BitPlus, api.BitMinus, api.BitHome}, []int{1, 2, 4, 8, 16, 32, 64}) {
		t.Error("bits of status words")
	}
	if !slices.Equal([]int{api.BitPower, api.BitEnable, api.BitClear}, []int{1, 2, 4}) {
		t.Error("bits of control words")
	}
}

// tryState: the word is of this state.
func tryState(t *testing.T, status, want int) {
	t.Helper()
	if s := State(status); s != want {
		t.Errorf("State(%d): %d, not %d", status, s, want)
	}
}

// P6.1
func TestStateOfEachWord(t *testing.T) {
	for status := 0; status <= 65535; status++ {
		tryState(t, status, stateByBits(status%16))
	}
}

// P6.1: the bits of a word below 0 are those of its two's complement.
func TestStateBelow0(t *testing.T) {
	for status := -65536; status < 0; status++ {
		tryState(t, status, stateByBits(lowBits(status)))
	}
	for _, c := range []struct{ status, state int }{
		{-1, fault}, {-2, fault}, {-8, fault}, {-9, op}, {-10, off}, {-11, ready}, {-12, off},
		{-13, on}, {-14, off}, {-15, ready}, {-16, off}, {-17, fault}, {-25, op}, {-32, off},
	} {
		tryState(t, c.status, c.state)
	}
}

// P6.1: the ends of 64 bits, and other places where the upper bits change.
func TestStateFar(t *testing.T) {
	for low := range 16 {
		for bit := 4; bit < 63; bit++ {
			tryState(t, 1<<bit+low, stateByBits(low))
			tryState(t, -1<<bit+low, stateByBits(low))
		}
		tryState(t, math.MinInt+low, stateByBits(low))
		tryState(t, math.MaxInt-15+low, stateByBits(low))
	}
	for _, c := range []struct{ status, state int }{
		{math.MinInt, off}, {math.MinInt + 1, ready}, {math.MinInt + 3, on}, {math.MinInt + 7, op}, {math.MinInt + 8, fault},
		{math.MaxInt, fault}, {math.MaxInt - 8, op}, {math.MaxInt - 12, on}, {math.MaxInt - 14, ready}, {math.MaxInt - 15, off},
	} {
		tryState(t, c.status, c.state)
	}
}

// P6.1: BitFault goes ahead of all others.
func TestFaultGoesAhead(t *testing.T) {
	for status := -1024; status <= 1024; status++ {
		tryState(t, status|8, fault)
		if State(status&^8) == fault {
			t.Errorf("State(%d): a fault without its bit", status&^8)
		}
	}
}

// P6.1
func TestStatus(t *testing.T) {
	for state, want := range []int{0, 1, 3, 7, 8} {
		if w := Status(state); w != want {
			t.Errorf("Status(%d): %d, not %d", state, w, want)
		}
	}
	for _, state := range noStates() {
		if w := Status(state); w != 0 {
			t.Errorf("Status(%d): %d, not 0", state, w)
		}
	}
}

// P6.1: a state's word is of this state, and none of fewer is.
func TestStatusIsLeast(t *testing.T) {
	for _, state := range states() {
		w := Status(state)
		tryState(t, w, state)
		for less := range w {
			if State(less) == state {
				t.Errorf("Status(%d): %d, but %d is of this state, too", state, w, less)
			}
		}
	}
}

// tryControl: this is what the drive is told.
func tryControl(t *testing.T, state int, want, clear bool, word int) {
	t.Helper()
	if c := Control(state, want, clear); c != word {
		t.Errorf("Control(%d, %t, %t): %d, not %d", state, want, clear, c, word)
	}
}

// P6.1
func TestControl(t *testing.T) {
	for _, c := range []struct {
		state       int
		want, clear bool
		word        int
	}{
		{off, false, false, 0}, {off, false, true, 0}, {off, true, false, 1}, {off, true, true, 1},
		{ready, false, false, 0}, {ready, false, true, 0}, {ready, true, false, 1}, {ready, true, true, 1},
		{on, false, false, 0}, {on, false, true, 0}, {on, true, false, 3}, {on, true, true, 3},
		{op, false, false, 0}, {op, false, true, 0}, {op, true, false, 3}, {op, true, true, 3},
		{fault, false, false, 0}, {fault, false, true, 4}, {fault, true, false, 0}, {fault, true, true, 4},
	} {
		tryControl(t, c.state, c.want, c.clear, c.word)
	}
}

// P6.1
func TestControlOfNoState(t *testing.T) {
	for _, state := range noStates() {
		for _, want := range bothValues() {
			for _, clear := range bothValues() {
				tryControl(t, state, want, clear, 0)
			}
		}
	}
}

// nextByBits is the next state, by the state and the lowest three bits of the control word, written out.
func nextByBits(state, low int) int {
	return [5][8]int{
		off:   {ready, ready, ready, ready, ready, ready, ready, ready},
		ready: {ready, on, ready, on, ready, on, ready, on},
		on:    {ready, on, ready, op, ready, on, ready, op},
		op:    {ready, on, ready, op, ready, on, ready, op},
		fault: {fault, fault, fault, fault, off, off, off, off},
	}[state][low]
}

// tryNext: told this, the drive goes there.
func tryNext(t *testing.T, state, control, want int) {
	t.Helper()
	if s := Next(state, control); s != want {
		t.Errorf("Next(%d, %d): %d, not %d", state, control, s, want)
	}
}

// P6.1: each control word of 16 bits, and as many below 0.
func TestNextOfEachWord(t *testing.T) {
	for _, state := range states() {
		for control := -65536; control <= 65535; control++ {
			tryNext(t, state, control, nextByBits(state, lowBits(control)%8))
		}
	}
}

// P6.1: some, written out.
func TestNext(t *testing.T) {
	for _, c := range []struct{ state, control, want int }{
		{off, 0, ready}, {off, 1, ready}, {off, -1, ready},
		{ready, 0, ready}, {ready, 1, on}, {ready, 3, on}, {ready, 6, ready}, {ready, -1, on}, {ready, -2, ready},
		{on, 0, ready}, {on, 2, ready}, {on, 1, on}, {on, 3, op}, {on, 5, on}, {on, -1, op}, {on, -3, on}, {on, -2, ready},
		{op, 0, ready}, {op, 2, ready}, {op, 1, on}, {op, 3, op}, {op, 7, op}, {op, -1, op}, {op, -3, on}, {op, -8, ready},
		{fault, 0, fault}, {fault, 3, fault}, {fault, 4, off}, {fault, 7, off}, {fault, 8, fault}, {fault, -1, off}, {fault, -5, fault},
	} {
		tryNext(t, c.state, c.control, c.want)
	}
}

// P6.1: the ends of 64 bits, and other places where the upper bits change.
func TestNextFar(t *testing.T) {
	for _, state := range states() {
		for low := range 8 {
			for bit := 3; bit < 63; bit++ {
				tryNext(t, state, 1<<bit+low, nextByBits(state, low))
				tryNext(t, state, -1<<bit+low, nextByBits(state, low))
			}
			tryNext(t, state, math.MinInt+low, nextByBits(state, low))
			tryNext(t, state, math.MaxInt-7+low, nextByBits(state, low))
		}
	}
}

// P6.1: of what is no state comes DriveOff, whatever it is told.
func TestNextOfNoState(t *testing.T) {
	for _, state := range noStates() {
		for control := -16; control <= 255; control++ {
			tryNext(t, state, control, off)
		}
		for _, control := range []int{math.MinInt, math.MaxInt, 1 << 32, -1 << 32} {
			tryNext(t, state, control, off)
		}
	}
}

// obey goes on by so many cycles, and answers the state behind each.
func obey(state int, want, clear bool, cycles int) []int {
	var row []int
	for range cycles {
		state = Next(state, Control(state, want, clear))
		row = append(row, state)
	}
	return row
}

// tryObey: these are the states behind the first cycles, and the last of them stays.
func tryObey(t *testing.T, state int, want, clear bool, first ...int) {
	t.Helper()
	all := first
	for len(all) < 1000 {
		all = append(all, first[len(first)-1])
	}
	if row := obey(state, want, clear, len(all)); !slices.Equal(row, all) {
		t.Errorf("from %d, wanted %t, cleared %t: %v, not %v", state, want, clear, row[:10], all[:10])
	}
}

// P6.2: the chapter's example.
func TestExample(t *testing.T) {
	if row := obey(api.DriveFault, true, true, 4); !slices.Equal(row, []int{api.DriveOff, api.DriveReady, api.DriveOn, api.DriveOp}) {
		t.Errorf("%v", row)
	}
}

// P6.2: wanted, cycle by cycle.
func TestWanted(t *testing.T) {
	tryObey(t, fault, true, true, off, ready, on, op)
	for _, clear := range bothValues() {
		tryObey(t, off, true, clear, ready, on, op)
		tryObey(t, ready, true, clear, on, op)
		tryObey(t, on, true, clear, op)
		tryObey(t, op, true, clear, op)
	}
}

// P6.2: not wanted, cycle by cycle.
func TestNotWanted(t *testing.T) {
	tryObey(t, fault, false, true, off, ready)
	for _, clear := range bothValues() {
		for _, state := range []int{off, ready, on, op} {
			tryObey(t, state, false, clear, ready)
		}
	}
}

// P6.2: a fault that isn't to be cleared stays.
func TestFaultStays(t *testing.T) {
	for _, want := range bothValues() {
		tryObey(t, fault, want, false, fault)
	}
}

// P6.2: as the promise counts the cycles, from each state, also one that came of a status word.
func TestWithinCycles(t *testing.T) {
	for status := range 128 {
		state := State(status)
		if row := obey(state, true, true, 100); slices.ContainsFunc(row[3:], func(s int) bool { return s != op }) {
			t.Errorf("status %d, wanted: %v", status, row)
		}
		cycles := 1
		if state == fault {
			cycles = 2
		}
		if row := obey(state, false, true, 100); slices.ContainsFunc(row[cycles-1:], func(s int) bool { return s != ready }) {
			t.Errorf("status %d, not wanted: %v", status, row)
		}
	}
}

// P6.2: wanted or not by turns, it comes where it is wanted each time.
func TestWantedByTurns(t *testing.T) {
	for _, state := range states() {
		for _, cycles := range []int{4, 5, 7} {
			s := state
			for range 3 {
				if s = obey(s, true, true, cycles)[cycles-1]; s != op {
					t.Fatalf("from %d, wanted for %d cycles: %d", state, cycles, s)
				}
				if s = obey(s, false, true, 1)[0]; s != ready {
					t.Fatalf("from %d, not wanted any more: %d", state, s)
				}
			}
		}
	}
}

// P6.2: also with the state read off the status word that such a drive tells.
func TestByStatusWords(t *testing.T) {
	for _, state := range states() {
		for _, want := range bothValues() {
			status := Status(state)
			for _, s := range obey(state, want, true, 8) {
				status = Status(Next(State(status), Control(State(status), want, true)))
				tryState(t, status, s)
			}
		}
	}
}

// Rule 4 of the document's 'Rules that hold everywhere': the same arguments answer the same, whatever was asked before.
func TestNothingIsKept(t *testing.T) {
	for range 5 {
		tryState(t, 7, op)
		tryState(t, 15, fault)
		tryControl(t, fault, true, true, 4)
		tryControl(t, on, true, true, 3)
		tryNext(t, on, 3, op)
		tryNext(t, 9, 3, off)
	}
}
