package bounce

import (
	"math"
	"slices"
	"testing"

	"servitor/api"
)

// far are numbers beyond every range that the chapter names; some are in it by their lowest byte or their lower half.
func far() []int {
	return []int{math.MinInt, math.MinInt + 1, math.MinInt + 5, math.MaxInt, math.MaxInt - 1, -1 << 32, 1 << 32, 1<<32 + 5, -1<<32 + 5, 1 << 31, -1 << 31, 1<<31 - 1, 1<<16 + 5, -256, -255, -251, -128, -20, 127, 128, 255, 256, 257, 261}
}

func bothValues() []bool { return []bool{false, true} }

// P5.1
func TestNewCounts(t *testing.T) {
	for count := 1; count <= 20; count++ {
		for _, value := range bothValues() {
			b, e := New(count, value)
			if e != api.OK || b != (api.Bounce{Count: count, Value: value, Other: 0}) {
				t.Errorf("New(%d, %t): %v %d", count, value, b, e)
			}
			if !Right(b) {
				t.Errorf("New(%d, %t): %v is not right", count, value, b)
			}
		}
	}
}

// P5.1
func TestNewWrongCounts(t *testing.T) {
	for _, count := range append(far(), 0, -1, -2, 21, 22, 100) {
		for _, value := range bothValues() {
			if b, e := New(count, value); e != api.ErrArg || b != (api.Bounce{}) {
				t.Errorf("New(%d, %t): %v %d, not ErrArg alone", count, value, b, e)
			}
		}
	}
}

// tryRight asks for both values.
func tryRight(t *testing.T, count, other int, want bool) {
	t.Helper()
	for _, value := range bothValues() {
		if b := (api.Bounce{Count: count, Value: value, Other: other}); Right(b) != want {
			t.Errorf("Right(%v): %t", b, !want)
		}
	}
}

// P5.1
func TestRightCount(t *testing.T) {
	for count := -3; count <= 40; count++ {
		tryRight(t, count, 0, 1 <= count && count <= 20)
		tryRight(t, count, count-1, 1 <= count && count <= 20)
		tryRight(t, count, count, false)
	}
	for _, count := range far() {
		tryRight(t, count, 0, false)
		tryRight(t, count, 3, false)
		tryRight(t, count, count-1, false)
		tryRight(t, count, count, false)
	}
}

// P5.1
func TestRightOther(t *testing.T) {
	for count := 1; count <= 20; count++ {
		for other := -3; other <= 25; other++ {
			tryRight(t, count, other, 0 <= other && other <= count-1)
		}
		for _, other := range far() {
			tryRight(t, count, other, false)
		}
	}
}

// P5.1: the ends, written out.
func TestRightEnds(t *testing.T) {
	for _, c := range []struct {
		count, other int
		want         bool
	}{
		{0, 0, false}, {0, -1, false}, {-1, 0, false}, {-1, -2, false},
		{1, -1, false}, {1, 0, true}, {1, 1, false},
		{2, -1, false}, {2, 0, true}, {2, 1, true}, {2, 2, false},
		{19, 18, true}, {19, 19, false},
		{20, -1, false}, {20, 0, true}, {20, 19, true}, {20, 20, false},
		{21, 0, false}, {21, 19, false}, {21, 20, false},
	} {
		tryRight(t, c.count, c.other, c.want)
	}
}

// tryStep: in this cycle the switch b becomes want.
func tryStep(t *testing.T, b api.Bounce, shows bool, want api.Bounce) {
	t.Helper()
	if n := Step(b, shows); n != want {
		t.Errorf("Step(%v, %t): %v, not %v", b, shows, n, want)
	}
}

// P5.2: the chapter's example.
func TestExample(t *testing.T) {
	b, e := New(2, false)
	if e != api.OK {
		t.Fatalf("New(2, false): %d", e)
	}
	var values []bool
	for _, shows := range []bool{true, false, true, true} {
		b = Step(b, shows)
		values = append(values, b.Value)
	}
	if !slices.Equal(values, []bool{false, false, false, true}) || b != (api.Bounce{Count: 2, Value: true, Other: 0}) {
		t.Errorf("%v, at last %v", values, b)
	}
}

// P5.2: each right switch, shown each of both.
func TestEachStep(t *testing.T) {
	for count := 1; count <= 20; count++ {
		for other := range count {
			for _, value := range bothValues() {
				b := api.Bounce{Count: count, Value: value, Other: other}
				tryStep(t, b, value, api.Bounce{Count: count, Value: value, Other: 0})
				if other < count-1 {
					tryStep(t, b, !value, api.Bounce{Count: count, Value: value, Other: other + 1})
				} else {
					tryStep(t, b, !value, api.Bounce{Count: count, Value: !value, Other: 0})
				}
			}
		}
	}
}

// P5.2: some steps, written out.
func TestSomeSteps(t *testing.T) {
	for _, c := range []struct {
		b     api.Bounce
		shows bool
		want  api.Bounce
	}{
		{api.Bounce{Count: 1, Value: false, Other: 0}, true, api.Bounce{Count: 1, Value: true, Other: 0}},
		{api.Bounce{Count: 1, Value: true, Other: 0}, false, api.Bounce{Count: 1, Value: false, Other: 0}},
		{api.Bounce{Count: 1, Value: true, Other: 0}, true, api.Bounce{Count: 1, Value: true, Other: 0}},
		{api.Bounce{Count: 2, Value: false, Other: 0}, true, api.Bounce{Count: 2, Value: false, Other: 1}},
		{api.Bounce{Count: 2, Value: false, Other: 1}, true, api.Bounce{Count: 2, Value: true, Other: 0}},
		{api.Bounce{Count: 2, Value: false, Other: 1}, false, api.Bounce{Count: 2, Value: false, Other: 0}},
		{api.Bounce{Count: 20, Value: true, Other: 18}, false, api.Bounce{Count: 20, Value: true, Other: 19}},
		{api.Bounce{Count: 20, Value: true, Other: 19}, false, api.Bounce{Count: 20, Value: false, Other: 0}},
		{api.Bounce{Count: 20, Value: true, Other: 19}, true, api.Bounce{Count: 20, Value: true, Other: 0}},
	} {
		tryStep(t, c.b, c.shows, c.want)
	}
}

// wrongParts are counts with others of which one alone is wrong, or both.
func wrongParts() [][2]int {
	l := [][2]int{{0, 0}, {0, -1}, {-1, -2}, {-1, -1}, {21, 0}, {21, 19}, {21, 20}, {21, 21}, {1, 1}, {2, 2}, {2, 3}, {20, 20}, {20, 21}, {1, -1}, {20, -1}}
	for _, n := range far() {
		l = append(l, [2]int{n, 0}, [2]int{n, n - 1}, [2]int{n, n}, [2]int{1, n}, [2]int{20, n})
	}
	return l
}

// P5.2
func TestStepsOfWhatIsNotRight(t *testing.T) {
	for _, p := range wrongParts() {
		tryRight(t, p[0], p[1], false)
		for _, value := range bothValues() {
			for _, shows := range bothValues() {
				tryStep(t, api.Bounce{Count: p[0], Value: value, Other: p[1]}, shows, api.Bounce{})
			}
		}
	}
}

// P5.2: of the zero switch comes the zero one, however often.
func TestZeroStays(t *testing.T) {
	var b api.Bounce
	for range 50 {
		for _, shows := range bothValues() {
			tryStep(t, b, shows, api.Bounce{})
			b = Step(b, shows)
		}
	}
}

// otherShown: were the last cycles, as many as count, all such that the switch showed other than value?
func otherShown(past []bool, count int, value bool) bool {
	return len(past) >= count && !slices.Contains(past[len(past)-count:], value)
}

// tryRow shows a switch a row, and holds its values against what the row and the cycles ahead of it showed.
func tryRow(t *testing.T, start api.Bounce, row []bool) {
	t.Helper()
	past := []bool{start.Value}
	for range start.Other {
		past = append(past, !start.Value)
	}
	b := start
	for at, shows := range row {
		n := Step(b, shows)
		past = append(past, shows)
		if !Right(n) || n.Count != start.Count {
			t.Fatalf("%v behind %v: %v", start, row[:at+1], n)
		}
		if changed := n.Value != b.Value; changed != otherShown(past, start.Count, b.Value) {
			t.Fatalf("%v behind %v: from %v to %v", start, row[:at+1], b, n)
		}
		b = n
	}
}

// P5.3: each row of twelve cycles, for small counts, from each right switch.
func TestEachShortRow(t *testing.T) {
	row := make([]bool, 12)
	for bits := range 1 << len(row) {
		for at := range row {
			row[at] = bits>>at&1 == 1
		}
		for count := 1; count <= 5; count++ {
			for other := range count {
				for _, value := range bothValues() {
					tryRow(t, api.Bounce{Count: count, Value: value, Other: other}, row)
				}
			}
		}
	}
}

// runs is a row that shows first, so often as the first number says, then the other, and so on by turns.
func runs(first bool, lengths ...int) []bool {
	var row []bool
	shows := first
	for _, n := range lengths {
		for range n {
			row = append(row, shows)
		}
		shows = !shows
	}
	return row
}

// P5.3: long rows, in which each is shown about as often as the count, one behind the other.
func TestLongRows(t *testing.T) {
	for count := 1; count <= 20; count++ {
		for _, value := range bothValues() {
			for other := range count {
				b := api.Bounce{Count: count, Value: value, Other: other}
				for _, first := range bothValues() {
					tryRow(t, b, runs(first, count-1, 1, count-1, 1, count, 1, count, count-1, 1, count, count+1, count, 3*count, 2*count+1, count/2, count/2, count-other, count))
				}
			}
		}
	}
}

// P5.3: the value changes in the cycle of the count, and in none before or behind it.
func TestChangesAtCount(t *testing.T) {
	for count := 1; count <= 20; count++ {
		for _, value := range bothValues() {
			b, _ := New(count, value)
			for cycle := 1; cycle <= 3*count+2; cycle++ {
				b = Step(b, !value)
				if (b.Value != value) != (cycle >= count) {
					t.Fatalf("count %d, from %t: in cycle %d %v", count, value, cycle, b)
				}
			}
		}
	}
}

// P5.3: one cycle in between that shows the value begins the count anew.
func TestCountBeginsAnew(t *testing.T) {
	for count := 2; count <= 20; count++ {
		for _, value := range bothValues() {
			for shown := 1; shown < count; shown++ {
				b, _ := New(count, value)
				for cycle, shows := range runs(!value, shown, 1, count) {
					b = Step(b, shows)
					if changed := b.Value != value; changed != (cycle == shown+count) {
						t.Fatalf("count %d, from %t, after %d shown: in cycle %d %v", count, value, shown, cycle, b)
					}
				}
			}
		}
	}
}

// P5.3: a switch that shows each by turns never changes its value, but for the count 1.
func TestFlutter(t *testing.T) {
	for count := 1; count <= 20; count++ {
		for _, value := range bothValues() {
			b, _ := New(count, value)
			shows := value
			for cycle := range 100 {
				shows = !shows
				b = Step(b, shows)
				if count == 1 && b.Value != shows || count > 1 && b.Value != value {
					t.Fatalf("count %d, from %t: in cycle %d, which shows %t, %v", count, value, cycle, shows, b)
				}
			}
		}
	}
}

// Rule 4 of the document's 'Rules that hold everywhere': the same switch answers the same, whatever was asked before.
func TestNothingIsKept(t *testing.T) {
	b := api.Bounce{Count: 3, Value: false, Other: 2}
	for range 5 {
		tryStep(t, b, true, api.Bounce{Count: 3, Value: true, Other: 0})
		tryStep(t, b, false, api.Bounce{Count: 3, Value: false, Other: 0})
		tryStep(t, api.Bounce{Count: 3, Value: false, Other: 0}, true, api.Bounce{Count: 3, Value: false, Other: 1})
		tryStep(t, api.Bounce{}, true, api.Bounce{})
	}
}
