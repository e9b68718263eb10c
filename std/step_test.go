package std

import (
	"math"
	"slices"
	"strings"
	"testing"

	"servitor/api"
)

const (
	least    = math.MinInt64
	greatest = math.MaxInt64
)

// call of a block: what its inputs are, and what is in the cells behind them then.
type call struct{ ins, want []int64 }

// n is a list of numbers.
func n(l ...int64) []int64 { return l }

// tryCalls of a block, one behind the other.
func tryCalls(t *testing.T, kind int, cells []int64, calls []call) {
	t.Helper()
	for i, c := range calls {
		cells = slices.Concat(c.ins, cells[len(c.ins):])
		want := slices.Concat(c.ins, c.want)
		cells = Step(kind, cells)
		if !slices.Equal(cells, want) {
			t.Fatalf("kind %d, call %d: %v, not %v", kind, i+1, cells, want)
		}
	}
}

// P16.2: the chapter's example.
func TestExample(t *testing.T) {
	tryCalls(t, api.TON, n(0, 0, 0, 0), []call{{n(1, 2), n(0, 1)}, {n(1, 2), n(1, 2)}, {n(1, 2), n(1, 2)}})
}

// P16.2: IN, PT; Q, ET.
func TestOnDelay(t *testing.T) {
	for _, calls := range [][]call{
		{{n(0, 2), n(0, 0)}, {n(1, 2), n(0, 1)}, {n(0, 2), n(0, 0)}, {n(1, 2), n(0, 1)}, {n(1, 2), n(1, 2)}, {n(1, 2), n(1, 2)}, {n(0, 2), n(0, 0)}, {n(0, 2), n(0, 0)}},
		{{n(1, 0), n(1, 0)}, {n(1, 0), n(1, 0)}, {n(0, 0), n(0, 0)}},
		{{n(1, -1), n(1, 0)}, {n(0, -1), n(0, 0)}, {n(1, least), n(1, 0)}},
		{{n(2, 1), n(1, 1)}, {n(-1, 1), n(1, 1)}, {n(greatest, 1), n(1, 1)}, {n(least, 1), n(1, 1)}},
		// PT that changes: ET goes on from where it is, and doesn't come down.
		{{n(1, 2), n(0, 1)}, {n(1, 2), n(1, 2)}, {n(1, 4), n(0, 3)}, {n(1, 4), n(1, 4)}, {n(1, 1), n(1, 4)}, {n(1, 4), n(1, 4)}, {n(1, 5), n(1, 5)}},
		{{n(1, greatest), n(0, 1)}, {n(1, greatest), n(0, 2)}, {n(1, 3), n(1, 3)}},
	} {
		tryCalls(t, 10, n(0, 0, 0, 0), calls)
	}
}

// P16.2: IN, PT; Q, ET.
func TestOffDelay(t *testing.T) {
	for _, calls := range [][]call{
		{{n(0, 2), n(0, 0)}, {n(1, 2), n(1, 0)}, {n(1, 2), n(1, 0)}, {n(0, 2), n(1, 1)}, {n(0, 2), n(0, 2)}, {n(0, 2), n(0, 2)}, {n(1, 2), n(1, 0)}, {n(0, 2), n(1, 1)}, {n(1, 2), n(1, 0)}},
		{{n(1, 0), n(1, 0)}, {n(0, 0), n(0, 0)}, {n(0, 0), n(0, 0)}},
		{{n(1, -1), n(1, 0)}, {n(0, -1), n(0, 0)}, {n(1, least), n(1, 0)}, {n(0, least), n(0, 0)}},
		{{n(2, 1), n(1, 0)}, {n(0, 1), n(0, 1)}, {n(-1, 1), n(1, 0)}, {n(0, 1), n(0, 1)}, {n(0, 9), n(0, 1)}},
		// PT that changes.
		{{n(1, 5), n(1, 0)}, {n(0, 5), n(1, 1)}, {n(0, 1), n(0, 1)}, {n(0, 5), n(0, 1)}, {n(1, 5), n(1, 0)}, {n(0, 5), n(1, 1)}, {n(0, 3), n(1, 2)}, {n(0, 3), n(0, 3)}},
	} {
		tryCalls(t, 11, n(0, 0, 0, 0), calls)
	}
}

// P16.2: IN, PT; Q, ET, what IN was, whether it runs.
func TestPulse(t *testing.T) {
	for _, calls := range [][]call{
		{{n(0, 2), n(0, 0, 0, 0)}, {n(1, 2), n(1, 1, 1, 1)}, {n(1, 2), n(1, 2, 1, 1)}, {n(1, 2), n(0, 2, 1, 0)}, {n(1, 2), n(0, 2, 1, 0)}, {n(0, 2), n(0, 2, 0, 0)}, {n(1, 2), n(1, 1, 1, 1)}},
		// IN that goes and comes again while it runs begins nothing.
		{{n(1, 3), n(1, 1, 1, 1)}, {n(0, 3), n(1, 2, 0, 1)}, {n(1, 3), n(1, 3, 1, 1)}, {n(0, 3), n(0, 3, 0, 0)}, {n(1, 3), n(1, 1, 1, 1)}},
		{{n(1, 2), n(1, 1, 1, 1)}, {n(0, 2), n(1, 2, 0, 1)}, {n(1, 2), n(0, 2, 1, 0)}, {n(1, 2), n(0, 2, 1, 0)}},
		{{n(1, 0), n(0, 0, 1, 0)}, {n(1, 0), n(0, 0, 1, 0)}, {n(0, 0), n(0, 0, 0, 0)}, {n(-5, -1), n(0, 0, 1, 0)}, {n(0, least), n(0, 0, 0, 0)}, {n(1, least), n(0, 0, 1, 0)}},
		{{n(2, 1), n(1, 1, 1, 1)}, {n(-1, 1), n(0, 1, 1, 0)}, {n(0, 1), n(0, 1, 0, 0)}, {n(greatest, 1), n(1, 1, 1, 1)}},
		// PT that changes.
		{{n(1, 9), n(1, 1, 1, 1)}, {n(1, 2), n(1, 2, 1, 1)}, {n(1, 1), n(0, 2, 1, 0)}, {n(1, 9), n(0, 2, 1, 0)}},
	} {
		tryCalls(t, 12, n(0, 0, 0, 0, 0, 0), calls)
	}
}

// P16.2: CU, R, PV; Q, CV, what CU was.
func TestCountUp(t *testing.T) {
	for _, calls := range [][]call{
		{{n(0, 0, 2), n(0, 0, 0)}, {n(1, 0, 2), n(0, 1, 1)}, {n(1, 0, 2), n(0, 1, 1)}, {n(0, 0, 2), n(0, 1, 0)}, {n(2, 0, 2), n(1, 2, 1)}, {n(0, 0, 2), n(1, 2, 0)}, {n(-1, 0, 2), n(1, 3, 1)}},
		// What CU was is kept while it is reset.
		{{n(1, 0, 1), n(1, 1, 1)}, {n(0, 1, 1), n(0, 0, 0)}, {n(1, 1, 1), n(0, 0, 1)}, {n(1, 0, 1), n(0, 0, 1)}, {n(0, 0, 1), n(0, 0, 0)}, {n(1, 0, 1), n(1, 1, 1)}, {n(1, -7, 1), n(0, 0, 1)}},
		{{n(0, 0, 0), n(1, 0, 0)}, {n(0, 0, -1), n(1, 0, 0)}, {n(0, 1, 0), n(1, 0, 0)}, {n(0, 0, least), n(1, 0, 0)}, {n(0, 0, 1), n(0, 0, 0)}, {n(1, 0, greatest), n(0, 1, 1)}},
	} {
		tryCalls(t, 13, n(0, 0, 0, 0, 0, 0), calls)
	}
	tryCalls(t, 13, n(0, 0, 0, 0, greatest-1, 0), []call{{n(1, 0, greatest), n(1, greatest, 1)}, {n(0, 0, greatest), n(1, greatest, 0)}, {n(1, 0, greatest), n(1, greatest, 1)}})
	tryCalls(t, 13, n(0, 0, 0, 0, least, 0), []call{{n(1, 0, least), n(1, least+1, 1)}, {n(0, 0, least+2), n(0, least+1, 0)}, {n(1, 0, least+2), n(1, least+2, 1)}})
}

// P16.2: CD, LD, PV; Q, CV, what CD was.
func TestCountDown(t *testing.T) {
	for _, calls := range [][]call{
		{{n(0, 1, 2), n(0, 2, 0)}, {n(1, 0, 2), n(0, 1, 1)}, {n(1, 0, 2), n(0, 1, 1)}, {n(0, 0, 2), n(0, 1, 0)}, {n(2, 0, 2), n(1, 0, 1)}, {n(0, 0, 2), n(1, 0, 0)}, {n(-1, 0, 2), n(1, -1, 1)}},
		// What CD was is kept while it is loaded.
		{{n(0, 0, 3), n(1, 0, 0)}, {n(1, 1, 3), n(0, 3, 1)}, {n(1, 0, 3), n(0, 3, 1)}, {n(0, 0, 3), n(0, 3, 0)}, {n(1, 0, 3), n(0, 2, 1)}, {n(0, least, 1), n(0, 1, 0)}, {n(0, 2, -1), n(1, -1, 0)}},
		{{n(0, 1, 0), n(1, 0, 0)}, {n(0, 1, greatest), n(0, greatest, 0)}, {n(1, 0, 0), n(0, greatest-1, 1)}, {n(0, 1, least), n(1, least, 0)}, {n(1, 0, 0), n(1, least, 1)}, {n(0, 0, 0), n(1, least, 0)}, {n(1, 0, 0), n(1, least, 1)}},
	} {
		tryCalls(t, 14, n(0, 0, 0, 0, 0, 0), calls)
	}
	tryCalls(t, 14, n(0, 0, 0, 0, least+1, 0), []call{{n(1, 0, 5), n(1, least, 1)}, {n(0, 0, 5), n(1, least, 0)}, {n(1, 0, 5), n(1, least, 1)}})
}

// P16.2: CLK; Q, what CLK was.
func TestEdges(t *testing.T) {
	tryCalls(t, 15, n(0, 0, 0), []call{{n(0), n(0, 0)}, {n(1), n(1, 1)}, {n(1), n(0, 1)}, {n(0), n(0, 0)}, {n(2), n(1, 1)}, {n(-1), n(0, 1)}, {n(0), n(0, 0)}, {n(least), n(1, 1)}})
	tryCalls(t, 16, n(0, 0, 0), []call{{n(0), n(0, 0)}, {n(1), n(0, 1)}, {n(1), n(0, 1)}, {n(0), n(1, 0)}, {n(0), n(0, 0)}, {n(2), n(0, 1)}, {n(-1), n(0, 1)}, {n(0), n(1, 0)}, {n(least), n(0, 1)}})
}

// P16.2: S1, R; Q1, and S, R1; Q1.
func TestFlipFlops(t *testing.T) {
	tryCalls(t, 17, n(0, 0, 0), []call{{n(0, 0), n(0)}, {n(0, 1), n(0)}, {n(1, 0), n(1)}, {n(0, 0), n(1)}, {n(0, 1), n(0)}, {n(1, 1), n(1)}, {n(-1, 2), n(1)}, {n(0, -1), n(0)}, {n(2, 0), n(1)}})
	tryCalls(t, 18, n(0, 0, 0), []call{{n(0, 0), n(0)}, {n(0, 1), n(0)}, {n(1, 0), n(1)}, {n(0, 0), n(1)}, {n(0, 1), n(0)}, {n(1, 1), n(0)}, {n(-1, 0), n(1)}, {n(2, -1), n(0)}, {n(2, 0), n(1)}, {n(1, 1), n(0)}})
}

// cellNames of a standard block, written out; the inner ones are p and r.
func cellNames(kind int) []string {
	return strings.Fields([]string{
		"IN PT Q ET", "IN PT Q ET", "IN PT Q ET p r", "CU R PV Q CV p", "CD LD PV Q CV p", "CLK Q p", "CLK Q p", "S1 R Q1", "S R1 Q1",
	}[kind-10])
}

// some numbers that a cell of this name is tried with.
func some(name string) []int64 {
	switch name {
	case "PT", "ET", "PV", "CV":
		return n(least, least+1, -2, -1, 0, 1, 2, 3, greatest-1, greatest)
	}
	return n(least, -1, 0, 1, 2, greatest)
}

// block is a standard block's cells by their names.
type block map[string]int64

func (b block) is(name string) bool { return b[name] != 0 }

func (b block) lay(name string, is bool) {
	b[name] = 0
	if is {
		b[name] = 1
	}
}

// rise of a number by 1, not above a bound; one that is above it stays.
func (b block) rise(name string, bound int64) {
	if b[name] < bound {
		b[name]++
	}
}

// call a block as the chapter has it, sentence by sentence.
func (b block) call(kind int) {
	switch kind {
	case 10:
		if b.is("IN") {
			b.rise("ET", b["PT"])
			b.lay("Q", b["ET"] >= b["PT"])
		} else {
			b["Q"], b["ET"] = 0, 0
		}
	case 11:
		if b.is("IN") {
			b["Q"], b["ET"] = 1, 0
		} else if b.is("Q") {
			b.rise("ET", b["PT"])
			b.lay("Q", b["ET"] < b["PT"])
		}
	case 12:
		if b.is("IN") && b["p"] == 0 && b["r"] == 0 {
			b["r"], b["ET"] = 1, 0
		}
		if b.is("r") {
			on := b["ET"] < b["PT"]
			b.rise("ET", b["PT"])
			b.lay("Q", on)
			b.lay("r", on)
		}
		b.lay("p", b.is("IN"))
	case 13:
		if b.is("R") {
			b["CV"] = 0
		} else if b.is("CU") && b["p"] == 0 {
			b.rise("CV", greatest)
		}
		b.lay("Q", b["CV"] >= b["PV"])
		b.lay("p", b.is("CU"))
	case 14:
		if b.is("LD") {
			b["CV"] = b["PV"]
		} else if b.is("CD") && b["p"] == 0 && b["CV"] != least {
			b["CV"]--
		}
		b.lay("Q", b["CV"] <= 0)
		b.lay("p", b.is("CD"))
	case 15:
		b.lay("Q", b.is("CLK") && !b.is("p"))
		b.lay("p", b.is("CLK"))
	case 16:
		b.lay("Q", b.is("p") && !b.is("CLK"))
		b.lay("p", b.is("CLK"))
	case 17:
		b.lay("Q1", b.is("S1") || (b.is("Q1") && !b.is("R")))
	case 18:
		b.lay("Q1", !b.is("R1") && (b.is("Q1") || b.is("S")))
	}
}

// eachMix of cells of these names, begun with some; it says what to do with each.
func eachMix(names []string, cells []int64, do func([]int64)) {
	if len(cells) == len(names) {
		do(cells)
		return
	}
	for _, x := range some(names[len(cells)]) {
		eachMix(names, append(slices.Clone(cells), x), do)
	}
}

// P16.2: each block, with each mix of truths and numbers, each truth being one by some numbers.
func TestEachMix(t *testing.T) {
	for kind := 10; kind <= 18; kind++ {
		names := cellNames(kind)
		eachMix(names, nil, func(cells []int64) {
			b := block{}
			for i, name := range names {
				b[name] = cells[i]
			}
			b.call(kind)
			want := []int64{}
			for _, name := range names {
				want = append(want, b[name])
			}
			if got := Step(kind, cells); !slices.Equal(got, want) {
				t.Fatalf("Step(%d, %v): %v, not %v", kind, cells, got, want)
			}
		})
	}
}

// unlike cells, as many as that: no truth is laid, none is 0.
func unlike(many int) []int64 {
	cells := []int64{}
	for i := range many {
		cells = append(cells, int64(3-2*(i%2))*int64(i+2))
	}
	return cells
}

// P16.2: a motion block's call changes nothing.
func TestMotionBlocksStay(t *testing.T) {
	for _, r := range table()[9:] {
		for _, cells := range [][]int64{unlike(r.wide()), make([]int64, r.wide()), slices.Repeat(n(1), r.wide()), slices.Repeat(n(least), r.wide()), slices.Repeat(n(greatest), r.wide())} {
			if got := Step(r.kind, cells); !slices.Equal(got, cells) {
				t.Errorf("Step(%d, %v): %v", r.kind, cells, got)
			}
		}
	}
}

// P16.2: cells that are not as many as the kind's pins stay as they are; a standard block's calls would change these, if they were.
func TestOtherManyCells(t *testing.T) {
	for _, r := range table() {
		for _, many := range []int{0, 1, 2, 3, 4, 5, 6, 7, r.wide() - 1, r.wide() + 1, 2 * r.wide(), 40} {
			if many == r.wide() {
				continue
			}
			if got := Step(r.kind, unlike(many)); !slices.Equal(got, unlike(many)) {
				t.Errorf("Step(%d, %v): %v", r.kind, unlike(many), got)
			}
		}
		if got := Step(r.kind, nil); len(got) != 0 {
			t.Errorf("Step(%d, nil): %v", r.kind, got)
		}
		if got := Step(r.kind, unlike(r.wide())); r.kind < 20 && slices.Equal(got, unlike(r.wide())) {
			t.Errorf("Step(%d, %v) changes nothing", r.kind, unlike(r.wide()))
		}
	}
}

// P16.2: of what is no kind the cells stay as they are, however many.
func TestStepOfNoKind(t *testing.T) {
	for _, kind := range noKinds() {
		for many := range 14 {
			if got := Step(kind, unlike(many)); !slices.Equal(got, unlike(many)) {
				t.Errorf("Step(%d, %v): %v", kind, unlike(many), got)
			}
		}
	}
}

// P16.2: the cells that are given stay as they were, the room behind them, too, and what is answered is new memory.
func TestCellsAreNotShared(t *testing.T) {
	for kind := -1; kind <= 33; kind++ {
		for many := range 14 {
			room := unlike(many + 5)
			got := Step(kind, room[:many])
			want := slices.Clone(got)
			if !slices.Equal(room, unlike(many+5)) {
				t.Fatalf("Step(%d, ..) of %d cells changes what it is given: %v", kind, many, room)
			}
			clear(room)
			if !slices.Equal(got, want) {
				t.Fatalf("Step(%d, ..) of %d cells answers what it was given", kind, many)
			}
			room = unlike(many + 5)
			got = Step(kind, room[:many])
			clear(got[:cap(got)])
			if !slices.Equal(room, unlike(many+5)) {
				t.Fatalf("Step(%d, ..) of %d cells answers memory that it was given: %v", kind, many, room)
			}
		}
	}
}

// mixed goes on from a number to the next one of a row that looks like chance, and is none.
func mixed(x uint64) uint64 { return x*6364136223846793005 + 1442695040888963407 }

// tryOnDelay of PT, with IN true or false call by call, held against how often IN was true one behind the other; true is laid by some numbers.
func tryOnDelay(t *testing.T, pt int64, ins []bool) {
	t.Helper()
	cells, often := n(0, pt, 0, 0), int64(0)
	for i, in := range ins {
		cells[0] = 0
		often++
		if in {
			cells[0] = n(1, 2, -1, greatest, least)[i%5]
		} else {
			often = 0
		}
		cells = Step(api.TON, cells)
		want := in && often >= pt
		if cells[2] != 0 && cells[2] != 1 || (cells[2] == 1) != want {
			t.Fatalf("PT %d, behind %v: Q %d, not %t", pt, ins[:i+1], cells[2], want)
		}
	}
}

func someTimes() []int64 {
	return n(least, least+1, -1000, -2, -1, 0, 1, 2, 3, 4, 5, 7, 8, 9, 10, 11, 100, greatest-1, greatest)
}

// P16.3: each row of ten calls.
func TestEachShortRow(t *testing.T) {
	for _, pt := range someTimes() {
		for bits := range 1 << 10 {
			ins := []bool{}
			for i := range 10 {
				ins = append(ins, bits>>i&1 == 1)
			}
			tryOnDelay(t, pt, ins)
		}
	}
}

// P16.3: long drawn rows, in which IN is true seldom, often, and nearly always.
func TestLongRows(t *testing.T) {
	for _, pt := range append(someTimes(), 20, 50, 99, 101, 400) {
		for _, seldom := range []uint64{2, 3, 10, 40, 300} {
			ins := []bool{}
			for x := mixed(uint64(pt) + seldom); len(ins) < 1500; x = mixed(x) {
				ins = append(ins, x>>33%seldom != 0)
			}
			tryOnDelay(t, pt, ins)
		}
	}
}

// P16.3: rows written out: Q behind each call.
func TestSomeRows(t *testing.T) {
	for _, c := range []struct {
		pt       int64
		ins, out string
	}{
		{-1, "0110100", "0110100"},
		{0, "0110100", "0110100"},
		{1, "0110100", "0110100"},
		{2, "0110111010011", "0010011000001"},
		{3, "1110110111101", "0010000001100"},
		{5, "111101111111011111", "000000000111000001"},
	} {
		cells, out := n(0, c.pt, 0, 0), ""
		for _, in := range c.ins {
			cells[0] = int64(in - '0')
			cells = Step(api.TON, cells)
			out += string(rune('0' + cells[2]))
		}
		if out != c.out {
			t.Errorf("PT %d, IN %s: %s, not %s", c.pt, c.ins, out, c.out)
		}
	}
}

// Rule 4 of the document's 'Rules that hold everywhere': the same arguments answer the same, whatever was asked before.
func TestNothingIsKept(t *testing.T) {
	for range 5 {
		if got := Step(api.TON, n(1, 2, 0, 0)); !slices.Equal(got, n(1, 2, 0, 1)) {
			t.Error(got)
		}
		if got := Step(api.CTU, n(1, 0, 1, 0, 0, 0)); !slices.Equal(got, n(1, 0, 1, 1, 1, 1)) {
			t.Error(got)
		}
		if Kind("SR") != 17 || Kind("") != 0 || Name(31) != "MC_SetOverride" || Name(19) != "" {
			t.Error("Kind, Name")
		}
	}
}
