package home

import (
	"math"
	"slices"
	"strings"
	"testing"

	"servitor/api"
)

// The greatest speed and the phases' numbers, written out: a change of what counts as right must not go by unseen.
const (
	fastest = 1048576

	seeking, stopping, leaving  = 0, 1, 2
	ending, homeFound, notFound = 3, 4, 5
)

func phases() []int { return []int{seeking, stopping, leaving, ending, homeFound, notFound} }

// noPhases are numbers that are none; some are one by their lower bits, or without their sign.
func noPhases() []int {
	return []int{
		math.MinInt, math.MinInt + 1, math.MinInt + 5, -1 << 32, 4 - 1<<32, -257, -256, -251, -6, -5, -4, -3, -2, -1,
		6, 7, 8, 9, 12, 16, 255, 256, 257, 260, 1 << 16, 1 << 31, 1 << 32, 1<<32 + 4, math.MaxInt - 5, math.MaxInt - 1, math.MaxInt,
	}
}

// speeds are a search's: that with which the switch is sought, and that with which it is left.
type speeds struct{ fast, creep int64 }

// bothSigns has each of some speeds, and each with the other sign.
func bothSigns(some ...speeds) []speeds {
	l := []speeds{}
	for _, s := range some {
		l = append(l, s, speeds{-s.fast, -s.creep})
	}
	return l
}

func rightSpeeds() []speeds {
	return bothSigns(
		speeds{1, 1}, speeds{2, 1}, speeds{2, 2}, speeds{5, 1}, speeds{5, 4}, speeds{5, 5}, speeds{256, 255}, speeds{257, 256},
		speeds{1 << 16, 1}, speeds{fastest - 1, 7}, speeds{fastest - 1, fastest - 1},
		speeds{fastest, 1}, speeds{fastest, 2}, speeds{fastest, fastest - 1}, speeds{fastest, fastest},
	)
}

// farSpeeds are beyond all speeds; some are one by their lower bits.
func farSpeeds() []int64 {
	return []int64{
		fastest + 1, fastest + 2, 2 * fastest, 1 << 31, 1<<31 - 1, 1<<32 - 1, 1 << 32, 1<<32 + 3, 1 << 40, 1<<62 + 5, math.MaxInt64 - 1, math.MaxInt64,
		-fastest - 1, -fastest - 2, -2 * fastest, -1 << 31, -1 << 32, 3 - 1<<32, -1 << 40, math.MinInt64 + 5, math.MinInt64 + 2, math.MinInt64 + 1, math.MinInt64,
	}
}

// wrongSpeeds are such as no search has.
func wrongSpeeds() []speeds {
	l := bothSigns(
		speeds{0, 0}, speeds{0, 1}, speeds{0, fastest}, speeds{1, 0}, speeds{5, 0}, speeds{fastest, 0},
		speeds{1, -1}, speeds{5, -1}, speeds{5, -5}, speeds{5, -6}, speeds{1, -5}, speeds{fastest, -1}, speeds{fastest, -fastest}, speeds{1, -fastest},
		speeds{1, 2}, speeds{5, 6}, speeds{5, 7}, speeds{5, 500}, speeds{1, fastest}, speeds{fastest - 1, fastest}, speeds{fastest, fastest + 1}, speeds{1, fastest + 1},
		speeds{fastest + 1, 1}, speeds{fastest + 1, fastest}, speeds{fastest + 1, fastest + 1}, speeds{fastest + 1, fastest + 2}, speeds{fastest + 1, -1}, speeds{fastest + 1, 0},
	)
	for _, n := range farSpeeds() {
		for _, m := range []int64{0, 1, -1, 3, -3, fastest, -fastest} {
			l = append(l, speeds{n, m}, speeds{m, n})
		}
		for _, m := range farSpeeds() {
			l = append(l, speeds{n, m})
		}
	}
	return l
}

func bothTruths() []bool { return []bool{false, true} }

// rightSearches are those of each phase, with right speeds, turned and not.
func rightSearches() []api.Home {
	l := []api.Home{}
	for _, phase := range phases() {
		for _, s := range rightSpeeds() {
			for _, turned := range bothTruths() {
				l = append(l, api.Home{Phase: phase, Fast: s.fast, Creep: s.creep, Turned: turned})
			}
		}
	}
	return l
}

// wrongSearches have no phase, or no search's speeds, or neither of them.
func wrongSearches() []api.Home {
	l := []api.Home{{}, {Turned: true}}
	for _, turned := range bothTruths() {
		for _, phase := range noPhases() {
			for _, s := range append(rightSpeeds(), speeds{0, 0}, speeds{5, -1}, speeds{5, 6}, speeds{math.MinInt64, math.MinInt64}) {
				l = append(l, api.Home{Phase: phase, Fast: s.fast, Creep: s.creep, Turned: turned})
			}
		}
		for _, phase := range phases() {
			for _, s := range wrongSpeeds() {
				l = append(l, api.Home{Phase: phase, Fast: s.fast, Creep: s.creep, Turned: turned})
			}
		}
	}
	return l
}

// told is what a cycle is told.
type told struct{ home, plus, minus, still bool }

// cycle that is told what stands in a text: h, the home switch shows; + and -, that of an end; s, the axis stands still.
func cycle(text string) told {
	return told{strings.Contains(text, "h"), strings.Contains(text, "+"), strings.Contains(text, "-"), strings.Contains(text, "s")}
}

// cycles are the sixteen: home, plus, minus and still are the bits of a place in them, home the highest one.
func cycles() []told {
	return []told{
		cycle(""), cycle("s"), cycle("-"), cycle("-s"), cycle("+"), cycle("+s"), cycle("+-"), cycle("+-s"),
		cycle("h"), cycle("hs"), cycle("h-"), cycle("h-s"), cycle("h+"), cycle("h+s"), cycle("h+-"), cycle("h+-s"),
	}
}

// step of a search by what a cycle is told.
func step(h api.Home, c told) (api.Home, int64) { return Step(h, c.home, c.plus, c.minus, c.still) }

// tryStep asks for the search behind a cycle, and what is wanted.
func tryStep(t *testing.T, h api.Home, c told, want api.Home, v int64) {
	t.Helper()
	if n, w := step(h, c); n != want || w != v {
		t.Errorf("Step(%v, %v): %v %d, not %v %d", h, c, n, w, want, v)
	}
}

// tryNew asks for a search that has just begun.
func tryNew(t *testing.T, s speeds) {
	t.Helper()
	h, e := New(s.fast, s.creep)
	if e != api.OK || h != (api.Home{Phase: seeking, Fast: s.fast, Creep: s.creep, Turned: false}) {
		t.Errorf("New(%d, %d): %v %d", s.fast, s.creep, h, e)
	}
	if !Right(h) || Over(h) {
		t.Errorf("New(%d, %d): right %t, over %t", s.fast, s.creep, Right(h), Over(h))
	}
}

// tryNoNew asks for ErrArg alone.
func tryNoNew(t *testing.T, s speeds) {
	t.Helper()
	if h, e := New(s.fast, s.creep); e != api.ErrArg || h != (api.Home{}) {
		t.Errorf("New(%d, %d): %v %d, not ErrArg alone", s.fast, s.creep, h, e)
	}
}

// tryRight asks of a search whether it is one, and a wrong one whether it is over.
func tryRight(t *testing.T, h api.Home, want bool) {
	t.Helper()
	if Right(h) != want {
		t.Errorf("Right(%v): %t", h, !want)
	}
	if !want && !Over(h) {
		t.Errorf("%v is not right, and not over", h)
	}
}

// P13.1
func TestNew(t *testing.T) {
	for _, s := range rightSpeeds() {
		tryNew(t, s)
	}
	for _, s := range wrongSpeeds() {
		tryNoNew(t, s)
	}
}

// P13.1: each pair of small speeds: those with one sign, in which Creep is not beyond Fast, and no others.
func TestNewSmall(t *testing.T) {
	right := map[speeds]int{}
	for fast := int64(1); fast <= 12; fast++ {
		for creep := int64(1); creep <= fast; creep++ {
			right[speeds{fast, creep}]++
			right[speeds{-fast, -creep}]++
		}
	}
	for fast := int64(-12); fast <= 12; fast++ {
		for creep := int64(-14); creep <= 14; creep++ {
			if s := (speeds{fast, creep}); right[s] == 1 {
				tryNew(t, s)
			} else {
				tryNoNew(t, s)
			}
		}
	}
}

// P13.1: the edges, written out.
func TestNewEdges(t *testing.T) {
	for _, c := range []struct {
		fast, creep int64
		e           api.Errno
	}{
		{5, 5, api.OK}, {5, 6, api.ErrArg}, {-5, -5, api.OK}, {-5, -6, api.ErrArg},
		{1048576, 1, api.OK}, {1048577, 1, api.ErrArg}, {-1048576, -1, api.OK}, {-1048577, -1, api.ErrArg},
		{1048576, 1048576, api.OK}, {1048577, 1048577, api.ErrArg}, {-1048576, -1048576, api.OK}, {-1048577, -1048577, api.ErrArg},
		{1048576, 1048577, api.ErrArg}, {-1048576, -1048577, api.ErrArg},
		{0, 0, api.ErrArg}, {0, 1, api.ErrArg}, {0, -1, api.ErrArg}, {1, 0, api.ErrArg}, {-1, 0, api.ErrArg}, {1, 1, api.OK}, {-1, -1, api.OK},
		{5, -1, api.ErrArg}, {-5, 1, api.ErrArg}, {1, -1, api.ErrArg}, {-1, 1, api.ErrArg}, {1048576, -1048576, api.ErrArg}, {-1048576, 1048576, api.ErrArg},
		{math.MaxInt64, 1, api.ErrArg}, {math.MinInt64, -1, api.ErrArg}, {math.MaxInt64, -1, api.ErrArg}, {math.MinInt64, 1, api.ErrArg},
		{5, math.MaxInt64, api.ErrArg}, {5, math.MinInt64, api.ErrArg}, {-5, math.MinInt64, api.ErrArg}, {-5, math.MaxInt64, api.ErrArg},
		{math.MaxInt64, math.MaxInt64, api.ErrArg}, {math.MinInt64, math.MinInt64, api.ErrArg}, {math.MaxInt64, math.MinInt64, api.ErrArg}, {math.MinInt64, math.MaxInt64, api.ErrArg},
		{math.MaxInt64, 0, api.ErrArg}, {math.MinInt64, 0, api.ErrArg}, {0, math.MaxInt64, api.ErrArg}, {0, math.MinInt64, api.ErrArg},
	} {
		if c.e == api.OK {
			tryNew(t, speeds{c.fast, c.creep})
		} else {
			tryNoNew(t, speeds{c.fast, c.creep})
		}
	}
}

// P13.1
func TestRight(t *testing.T) {
	for _, h := range rightSearches() {
		tryRight(t, h, true)
	}
	for _, h := range wrongSearches() {
		tryRight(t, h, false)
	}
}

// P13.1: each number from far below the phases to far above them.
func TestRightPhases(t *testing.T) {
	for phase := -300; phase <= 300; phase++ {
		for _, s := range rightSpeeds() {
			for _, turned := range bothTruths() {
				tryRight(t, api.Home{Phase: phase, Fast: s.fast, Creep: s.creep, Turned: turned}, phase >= 0 && phase <= 5)
			}
		}
	}
}

// P13.1: some searches, written out.
func TestSomeRight(t *testing.T) {
	for _, c := range []struct {
		h    api.Home
		want bool
	}{
		{api.Home{Phase: -1, Fast: 5, Creep: 1}, false}, {api.Home{Phase: 0, Fast: 5, Creep: 1}, true}, {api.Home{Phase: 5, Fast: 5, Creep: 1}, true}, {api.Home{Phase: 6, Fast: 5, Creep: 1}, false},
		{api.Home{Phase: -1, Fast: -5, Creep: -1}, false}, {api.Home{Phase: 0, Fast: -5, Creep: -1}, true}, {api.Home{Phase: 5, Fast: -5, Creep: -1, Turned: true}, true}, {api.Home{Phase: 6, Fast: -5, Creep: -1}, false},
		{api.Home{Phase: math.MinInt, Fast: 5, Creep: 1}, false}, {api.Home{Phase: math.MaxInt, Fast: 5, Creep: 1}, false},
		{api.Home{Phase: 3, Fast: 1048576, Creep: 1048576}, true}, {api.Home{Phase: 3, Fast: 1048577, Creep: 1048576}, false}, {api.Home{Phase: 3, Fast: -1048576, Creep: -1048576}, true}, {api.Home{Phase: 3, Fast: -1048577, Creep: -1048576}, false},
		{api.Home{Phase: 4, Fast: 0, Creep: 0}, false}, {api.Home{Phase: 4, Fast: 1, Creep: 0}, false}, {api.Home{Phase: 4, Fast: 0, Creep: 1}, false},
		{api.Home{Phase: 2, Fast: 5, Creep: -5}, false}, {api.Home{Phase: 2, Fast: -5, Creep: 5}, false}, {api.Home{Phase: 2, Fast: 5, Creep: 6}, false}, {api.Home{Phase: 2, Fast: -5, Creep: -6}, false},
		{api.Home{Phase: 1, Fast: math.MinInt64, Creep: math.MinInt64}, false}, {api.Home{Phase: 1, Fast: math.MaxInt64, Creep: math.MaxInt64}, false}, {api.Home{Phase: 1, Fast: 5, Creep: math.MinInt64}, false}, {api.Home{Phase: 1, Fast: -5, Creep: math.MinInt64}, false},
	} {
		tryRight(t, c.h, c.want)
	}
}

// P13.1: over in HomeDone and HomeFail, and where it is not right, whatever its phase.
func TestOver(t *testing.T) {
	for _, h := range rightSearches() {
		if Over(h) != (h.Phase == 4 || h.Phase == 5) {
			t.Errorf("Over(%v): %t", h, Over(h))
		}
	}
	for _, h := range wrongSearches() {
		if !Over(h) {
			t.Errorf("Over(%v): false", h)
		}
	}
}

// steps of each phase: a sign for each of the sixteen cycles. A phase's number: it is in that one, and 0 is wanted; =: it is as it was, and 0 is wanted;
// T: both speeds have the other sign, it has turned, and 0 is wanted; F: it is as it was, and Fast is wanted; C: likewise, and Creep with the other sign.
func steps(phase int, upwards, turned bool) string {
	switch {
	case phase == seeking && upwards && !turned:
		return "FFFFTTTT11111111"
	case phase == seeking && upwards:
		return "FFFF555511111111"
	case phase == seeking && !turned:
		return "FFTTFFTT11111111"
	case phase == seeking:
		return "FF55FF5511111111"
	case phase == stopping:
		return "=2=2=2=2=2=2=2=2"
	case phase == leaving && upwards:
		return "33333333CC55CC55"
	case phase == leaving:
		return "33333333CCCC5555"
	case phase == ending:
		return "=4=4=4=4=4=4=4=4"
	}
	return "================"
}

// behind a cycle with such a sign: the search, and what is wanted.
func behind(h api.Home, sign byte) (api.Home, int64) {
	switch sign {
	case '=':
		return h, 0
	case 'F':
		return h, h.Fast
	case 'C':
		return h, -h.Creep
	case 'T':
		return api.Home{Phase: h.Phase, Fast: -h.Fast, Creep: -h.Creep, Turned: true}, 0
	}
	return api.Home{Phase: int(sign - '0'), Fast: h.Fast, Creep: h.Creep, Turned: h.Turned}, 0
}

// P13.2: each phase, with each of the sixteen things that a cycle may be told, both ways, turned and not.
func TestEachStep(t *testing.T) {
	for _, h := range rightSearches() {
		signs := steps(h.Phase, h.Fast > 0, h.Turned)
		for i, c := range cycles() {
			want, v := behind(h, signs[i])
			tryStep(t, h, c, want, v)
		}
	}
}

// P13.2: some steps, written out.
func TestSomeSteps(t *testing.T) {
	for _, c := range []struct {
		h    api.Home
		told string
		want api.Home
		v    int64
	}{
		{api.Home{Phase: 0, Fast: 5, Creep: 2}, "", api.Home{Phase: 0, Fast: 5, Creep: 2}, 5},
		{api.Home{Phase: 0, Fast: 5, Creep: 2}, "-s", api.Home{Phase: 0, Fast: 5, Creep: 2}, 5},
		{api.Home{Phase: 0, Fast: 5, Creep: 2}, "+", api.Home{Phase: 0, Fast: -5, Creep: -2, Turned: true}, 0},
		{api.Home{Phase: 0, Fast: 5, Creep: 2}, "h+", api.Home{Phase: 1, Fast: 5, Creep: 2}, 0},
		{api.Home{Phase: 0, Fast: 5, Creep: 2, Turned: true}, "+", api.Home{Phase: 5, Fast: 5, Creep: 2, Turned: true}, 0},
		{api.Home{Phase: 0, Fast: 5, Creep: 2, Turned: true}, "h+", api.Home{Phase: 1, Fast: 5, Creep: 2, Turned: true}, 0},
		{api.Home{Phase: 0, Fast: -5, Creep: -2}, "+", api.Home{Phase: 0, Fast: -5, Creep: -2}, -5},
		{api.Home{Phase: 0, Fast: -5, Creep: -2}, "-", api.Home{Phase: 0, Fast: 5, Creep: 2, Turned: true}, 0},
		{api.Home{Phase: 0, Fast: -5, Creep: -2, Turned: true}, "+-", api.Home{Phase: 5, Fast: -5, Creep: -2, Turned: true}, 0},
		{api.Home{Phase: 1, Fast: 5, Creep: 2}, "h+-", api.Home{Phase: 1, Fast: 5, Creep: 2}, 0},
		{api.Home{Phase: 1, Fast: 5, Creep: 2}, "s", api.Home{Phase: 2, Fast: 5, Creep: 2}, 0},
		{api.Home{Phase: 2, Fast: 5, Creep: 2}, "h", api.Home{Phase: 2, Fast: 5, Creep: 2}, -2},
		{api.Home{Phase: 2, Fast: 5, Creep: 2}, "h+", api.Home{Phase: 2, Fast: 5, Creep: 2}, -2},
		{api.Home{Phase: 2, Fast: 5, Creep: 2}, "h-", api.Home{Phase: 5, Fast: 5, Creep: 2}, 0},
		{api.Home{Phase: 2, Fast: 5, Creep: 2}, "-s", api.Home{Phase: 3, Fast: 5, Creep: 2}, 0},
		{api.Home{Phase: 2, Fast: -5, Creep: -2, Turned: true}, "h-", api.Home{Phase: 2, Fast: -5, Creep: -2, Turned: true}, 2},
		{api.Home{Phase: 2, Fast: -5, Creep: -2, Turned: true}, "h+", api.Home{Phase: 5, Fast: -5, Creep: -2, Turned: true}, 0},
		{api.Home{Phase: 3, Fast: 5, Creep: 2}, "h", api.Home{Phase: 3, Fast: 5, Creep: 2}, 0},
		{api.Home{Phase: 3, Fast: 5, Creep: 2}, "hs", api.Home{Phase: 4, Fast: 5, Creep: 2}, 0},
		{api.Home{Phase: 4, Fast: 5, Creep: 2}, "h+-s", api.Home{Phase: 4, Fast: 5, Creep: 2}, 0},
		{api.Home{Phase: 5, Fast: -5, Creep: -2}, "h+-s", api.Home{Phase: 5, Fast: -5, Creep: -2}, 0},
		{api.Home{Phase: 0, Fast: 1048576, Creep: 1048575}, "+", api.Home{Phase: 0, Fast: -1048576, Creep: -1048575, Turned: true}, 0},
		{api.Home{Phase: 2, Fast: -1048576, Creep: -1048576}, "h", api.Home{Phase: 2, Fast: -1048576, Creep: -1048576}, 1048576},
		{api.Home{Phase: 6, Fast: 5, Creep: 2}, "", api.Home{Phase: 6, Fast: 5, Creep: 2}, 0},
		{api.Home{Phase: 0, Fast: 5, Creep: 6}, "h", api.Home{Phase: 0, Fast: 5, Creep: 6}, 0},
		{api.Home{Phase: 2, Fast: 5, Creep: -2}, "h", api.Home{Phase: 2, Fast: 5, Creep: -2}, 0},
	} {
		tryStep(t, c.h, cycle(c.told), c.want, c.v)
	}
}

// P13.2: a search that is not right is as it was, and 0 is wanted, whatever the cycle is told.
func TestStepsOfWhatIsNotRight(t *testing.T) {
	for _, h := range wrongSearches() {
		for _, c := range cycles() {
			tryStep(t, h, c, h, 0)
		}
	}
}

// P13.3: of any right search each cycle leaves a right one, which has not turned back, and stays as it is once it is over.
func TestEachStepKeeps(t *testing.T) {
	for _, h := range rightSearches() {
		for _, c := range cycles() {
			tryKeeps(t, h, c)
		}
	}
}

// tryKeeps asks of one cycle what P13.3 says of each, and answers the search behind it.
func tryKeeps(t *testing.T, h api.Home, c told) api.Home {
	t.Helper()
	n, v := step(h, c)
	if !Right(n) {
		t.Fatalf("Step(%v, %v): %v is not right", h, c, n)
	}
	if h.Turned && !n.Turned {
		t.Fatalf("Step(%v, %v): %v has turned back", h, c, n)
	}
	if turns := n.Fast != h.Fast || n.Creep != h.Creep; turns && (n.Fast != -h.Fast || n.Creep != -h.Creep || h.Turned) || turns != (n.Turned && !h.Turned) {
		t.Fatalf("Step(%v, %v): %v", h, c, n)
	}
	if Over(h) && (n != h || v != 0) {
		t.Fatalf("Step(%v, %v): %v %d, though it was over", h, c, n, v)
	}
	return n
}

// course is a search, and what was told since it began: did the home switch show, did it not show in a later cycle?
type course struct {
	h           api.Home
	shown, left bool
}

// behind is the course behind one cycle more.
func (k course) behind(t *testing.T, c told) course {
	t.Helper()
	n := course{tryKeeps(t, k.h, c), k.shown || c.home, k.left || k.shown && !c.home}
	if n.h.Phase == homeFound && !n.left {
		t.Fatalf("Step(%v, %v): %v, without a cycle in which the home switch showed, and a later one in which it didn't", k.h, c, n.h)
	}
	return n
}

// begun is the course of a search that begins.
func begun(t *testing.T, s speeds) course {
	t.Helper()
	h, e := New(s.fast, s.creep)
	if e != api.OK {
		t.Fatalf("New(%d, %d): %d", s.fast, s.creep, e)
	}
	return course{h: h}
}

// comeTo are the searches to which rows came, and how often.
type comeTo map[api.Home]int

// tryAll asks that rows came to each phase, turned and not, and to no other search.
func (come comeTo) tryAll(t *testing.T, s speeds) {
	t.Helper()
	for _, phase := range phases() {
		for _, h := range []api.Home{{Phase: phase, Fast: s.fast, Creep: s.creep}, {Phase: phase, Fast: -s.fast, Creep: -s.creep, Turned: true}} {
			if come[h] == 0 {
				t.Errorf("no row from %v came to %v", s, h)
			}
		}
	}
	if len(come) != 12 {
		t.Errorf("rows from %v came to %d searches", s, len(come))
	}
}

// tryEach row that goes on from here by so many cycles more.
func tryEach(t *testing.T, k course, more int, come comeTo) {
	t.Helper()
	come[k.h]++
	if more == 0 {
		return
	}
	for _, c := range cycles() {
		tryEach(t, k.behind(t, c), more-1, come)
	}
}

// P13.3: each row of five cycles.
func TestEachShortRow(t *testing.T) {
	for _, s := range bothSigns(speeds{5, 2}, speeds{fastest, fastest}) {
		come := comeTo{}
		tryEach(t, begun(t, s), 5, come)
		come.tryAll(t, s)
	}
}

// mixed goes on from a number to the next one of a row that looks like chance, and is none.
func mixed(n uint64) uint64 { return n*6364136223846793005 + 1442695040888963407 }

// longRow of cycles, in an order of its kind; each thing is told in so many of a hundred cycles.
func longRow(kind, home, plus, minus, still uint64) []told {
	row, n := []told{}, mixed(kind)
	often := func(of uint64) bool {
		n = mixed(n)
		return n>>33%100 < of
	}
	for range 200 {
		row = append(row, told{often(home), often(plus), often(minus), often(still)})
	}
	return row
}

// longRows of a kind, in which each thing is told often, or seldom, or never.
func longRows(kind uint64) [][]told {
	rows := [][]told{}
	for _, home := range []uint64{0, 3, 50, 97, 100} {
		for _, end := range []uint64{0, 2, 30, 100} {
			for _, still := range []uint64{0, 10, 50} {
				rows = append(rows, longRow(kind, home, end, end, still), longRow(kind, home, end, 0, still), longRow(kind, home, 0, end, still))
			}
		}
	}
	return rows
}

// tryRow of cycles from where a search begins; it answers the search behind them.
func tryRow(t *testing.T, s speeds, row []told, come comeTo) api.Home {
	t.Helper()
	k := begun(t, s)
	for _, c := range row {
		k = k.behind(t, c)
		come[k.h]++
	}
	return k.h
}

// P13.3: long rows.
func TestLongRows(t *testing.T) {
	for _, s := range rightSpeeds() {
		come := comeTo{}
		for kind := range uint64(5) {
			for _, row := range longRows(kind) {
				tryRow(t, s, row, come)
			}
		}
		come.tryAll(t, s)
	}
}

// P13.3: a search never comes to HomeDone in which the home switch never shows, nor one in which it always does.
func TestNotDoneWithoutTheSwitch(t *testing.T) {
	for _, s := range rightSpeeds() {
		for kind := range uint64(20) {
			if h := tryRow(t, s, longRow(kind, 0, 0, 0, 50), comeTo{}); h.Phase != seeking || h.Turned {
				t.Errorf("from %v, without a switch: %v", s, h)
			}
			if h := tryRow(t, s, longRow(kind, 0, 50, 50, 50), comeTo{}); h.Phase != notFound || !h.Turned {
				t.Errorf("from %v, from end to end: %v", s, h)
			}
			if h := tryRow(t, s, longRow(kind, 100, 0, 0, 50), comeTo{}); h.Phase != leaving || h.Turned {
				t.Errorf("from %v, in the switch for ever: %v", s, h)
			}
		}
	}
}

// passage is a cycle of a row: what is told, what is wanted, and the phase behind it.
type passage struct {
	told  string
	want  int64
	phase int
}

// P13.2, P13.3: the chapter's example, and other rows, written out.
func TestSomeRows(t *testing.T) {
	type row = []passage
	for i, c := range []struct {
		fast, creep int64
		turned      bool
		row         row
	}{
		{5, 1, false, row{{"h", 0, 1}, {"hs", 0, 2}, {"h", -1, 2}, {"h", -1, 2}, {"", 0, 3}, {"s", 0, 4}}},
		{5, 1, false, row{{"s", 5, 0}, {"-", 5, 0}, {"h", 0, 1}, {"", 0, 1}, {"s", 0, 2}, {"", 0, 3}, {"h", 0, 3}, {"hs", 0, 4}, {"h", 0, 4}, {"+", 0, 4}, {"-", 0, 4}}},
		{-5, -1, false, row{{"s", -5, 0}, {"+", -5, 0}, {"h-", 0, 1}, {"h-", 0, 1}, {"h-s", 0, 2}, {"h-", 1, 2}, {"h", 1, 2}, {"", 0, 3}, {"", 0, 3}, {"s", 0, 4}, {"h+-s", 0, 4}}},
		{5, 2, true, row{{"", 5, 0}, {"+", 0, 0}, {"+", -5, 0}, {"", -5, 0}, {"h", 0, 1}, {"h", 0, 1}, {"hs", 0, 2}, {"h", 2, 2}, {"h-", 2, 2}, {"-", 0, 3}, {"s", 0, 4}, {"+", 0, 4}}},
		{-5, -2, true, row{{"", -5, 0}, {"-", 0, 0}, {"-", 5, 0}, {"h+", 0, 1}, {"hs", 0, 2}, {"h+", -2, 2}, {"h", -2, 2}, {"", 0, 3}, {"s", 0, 4}}},
		{5, 2, true, row{{"", 5, 0}, {"+", 0, 0}, {"+", -5, 0}, {"", -5, 0}, {"-", 0, 5}, {"h", 0, 5}, {"s", 0, 5}, {"", 0, 5}, {"+", 0, 5}}},
		{-5, -5, true, row{{"+-", 0, 0}, {"+-", 0, 5}, {"h", 0, 5}, {"hs", 0, 5}, {"", 0, 5}, {"s", 0, 5}}},
		{5, 2, false, row{{"h", 0, 1}, {"s", 0, 2}, {"h+", -2, 2}, {"h-", 0, 5}, {"", 0, 5}, {"s", 0, 5}}},
		{-7, -3, false, row{{"h-", 0, 1}, {"h-s", 0, 2}, {"h-", 3, 2}, {"h", 3, 2}, {"h+", 0, 5}, {"+", 0, 5}, {"s", 0, 5}}},
		{-7, -3, false, row{{"h+-", 0, 1}, {"+-", 0, 1}, {"+-s", 0, 2}, {"+-", 0, 3}, {"h+-", 0, 3}, {"+-s", 0, 4}, {"+-", 0, 4}}},
		{-1048576, -1048576, true, row{{"-s", 0, 0}, {"-s", 1048576, 0}, {"h", 0, 1}, {"s", 0, 2}, {"h", -1048576, 2}, {"", 0, 3}, {"s", 0, 4}}},
	} {
		k := begun(t, speeds{c.fast, c.creep})
		for at, p := range c.row {
			_, v := step(k.h, cycle(p.told))
			k = k.behind(t, cycle(p.told))
			if v != p.want || k.h.Phase != p.phase {
				t.Errorf("row %d, cycle %d, %q: %v %d, not %d %d", i, at, p.told, k.h, v, p.phase, p.want)
			}
		}
		if k.h.Turned != c.turned {
			t.Errorf("row %d: %v", i, k.h)
		}
	}
}

// The limit and the phases are api's, as they are written out above.
func TestLimits(t *testing.T) {
	if api.MaxVel != fastest {
		t.Errorf("MaxVel: %d", api.MaxVel)
	}
	if !slices.Equal([]int{api.HomeSeek, api.HomeStop, api.HomeLeave, api.HomeEnd, api.HomeDone, api.HomeFail}, phases()) {
		t.Error("phases")
	}
}

// Rule 4 of the document's 'Rules that hold everywhere': the same search answers the same, whatever was asked before.
func TestNothingIsKept(t *testing.T) {
	h := api.Home{Phase: seeking, Fast: 5, Creep: 2}
	for range 5 {
		tryStep(t, h, cycle("+"), api.Home{Phase: seeking, Fast: -5, Creep: -2, Turned: true}, 0)
		tryStep(t, h, cycle(""), h, 5)
		tryStep(t, h, cycle("h"), api.Home{Phase: stopping, Fast: 5, Creep: 2}, 0)
		tryStep(t, api.Home{}, cycle("h"), api.Home{}, 0)
		tryNew(t, speeds{-5, -2})
		tryNoNew(t, speeds{5, -2})
	}
}
