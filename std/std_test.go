package std

import (
	"math"
	"slices"
	"strconv"
	"strings"
	"testing"

	"servitor/api"
)

// row of the chapter's table, written out: each pin in order, > an input, < an output, _ an inner one; # a number, ? a truth.
type row struct {
	kind int
	name string
	pins string
}

func table() []row {
	return []row{
		{10, "TON", ">IN? >PT# <Q? <ET#"},
		{11, "TOF", ">IN? >PT# <Q? <ET#"},
		{12, "TP", ">IN? >PT# <Q? <ET# _ _"},
		{13, "CTU", ">CU? >R? >PV# <Q? <CV# _"},
		{14, "CTD", ">CD? >LD? >PV# <Q? <CV# _"},
		{15, "R_TRIG", ">CLK? <Q? _"},
		{16, "F_TRIG", ">CLK? <Q? _"},
		{17, "SR", ">S1? >R? <Q1?"},
		{18, "RS", ">S? >R1? <Q1?"},
		{20, "MC_Power", ">Axis# >Enable? <Status? <Error?"},
		{21, "MC_Home", ">Axis# >Execute? <Done? <Busy? <Active? <CommandAborted? <Error? _ _"},
		{22, "MC_Stop", ">Axis# >Execute? <Done? <Busy? <Active? <CommandAborted? <Error? _ _"},
		{23, "MC_Halt", ">Axis# >Execute? <Done? <Busy? <Active? <CommandAborted? <Error? _ _"},
		{24, "MC_MoveAbsolute", ">Axis# >Execute? >Position# >Velocity# >BufferMode# <Done? <Busy? <Active? <CommandAborted? <Error? _ _"},
		{25, "MC_MoveRelative", ">Axis# >Execute? >Distance# >Velocity# >BufferMode# <Done? <Busy? <Active? <CommandAborted? <Error? _ _"},
		{26, "MC_MoveAdditive", ">Axis# >Execute? >Distance# >Velocity# >BufferMode# <Done? <Busy? <Active? <CommandAborted? <Error? _ _"},
		{27, "MC_MoveVelocity", ">Axis# >Execute? >Velocity# <InVelocity? <Busy? <Active? <CommandAborted? <Error? _ _"},
		{28, "MC_GearIn", ">Axis# >Execute? >Master# >Numerator# >Denominator# <InGear? <Busy? <Active? <CommandAborted? <Error? _ _"},
		{29, "MC_Reset", ">Axis# >Execute? <Done? <Error? _"},
		{30, "MC_SetPosition", ">Axis# >Execute? >Position# <Done? <Error? _"},
		{31, "MC_SetOverride", ">Axis# >Enable? >Percent# <Enabled?"},
	}
}

// wide is how many pins the kind of a row has.
func (r row) wide() int { return len(strings.Fields(r.pins)) }

// noKinds are numbers of no kind; some are one by their lower bits, or without their sign.
func noKinds() []int {
	none := []int{-1, 0, 1, 2, 3, 4, 5, 6, 7, 8, 9, 19, 32, 33, 100, math.MinInt, math.MinInt + 1, math.MaxInt - 1, math.MaxInt}
	for _, r := range table() {
		for _, far := range []int{32, 64, 256, 1 << 16, 1 << 31, 1 << 32, 1 << 62, math.MinInt} {
			none = append(none, r.kind+far)
		}
		none = append(none, -r.kind, ^r.kind, math.MaxInt-r.kind)
	}
	return none
}

// told is a pin as the table here has it.
func told(p api.Pin) string {
	if p == (api.Pin{}) {
		return "_"
	}
	way := "<"
	if p.In {
		way = ">"
	}
	switch p.Type {
	case 1:
		return way + p.Name + "#"
	case 2:
		return way + p.Name + "?"
	}
	return way + p.Name + "!" + strconv.Itoa(p.Type)
}

func allTold(pins []api.Pin) string {
	parts := []string{}
	for _, p := range pins {
		parts = append(parts, told(p))
	}
	return strings.Join(parts, " ")
}

// P16.1: the names in api stand for the document's numbers.
func TestKindsInApi(t *testing.T) {
	kinds := []int{}
	for _, r := range table() {
		kinds = append(kinds, r.kind)
	}
	if !slices.Equal(kinds, []int{
		api.TON, api.TOF, api.TP, api.CTU, api.CTD, api.RTrig, api.FTrig, api.SR, api.RS,
		api.McPower, api.McHome, api.McStop, api.McHalt, api.McAbs, api.McRel, api.McAdd,
		api.McSpeed, api.McGear, api.McReset, api.McSetPos, api.McPercent,
	}) {
		t.Error(kinds)
	}
}

// P16.1
func TestPins(t *testing.T) {
	for _, r := range table() {
		if got := allTold(Pins(r.kind)); got != r.pins {
			t.Errorf("Pins(%d): %s, not %s", r.kind, got, r.pins)
		}
	}
}

// P16.1: some pins whole, as api has them.
func TestSomePins(t *testing.T) {
	for _, c := range []struct {
		kind, at int
		want     api.Pin
	}{
		{api.TON, 0, api.Pin{Name: "IN", Type: api.Bool, In: true}},
		{api.TON, 3, api.Pin{Name: "ET", Type: api.Int}},
		{api.TP, 4, api.Pin{}},
		{api.TP, 5, api.Pin{}},
		{api.CTU, 1, api.Pin{Name: "R", Type: api.Bool, In: true}},
		{api.CTU, 4, api.Pin{Name: "CV", Type: api.Int}},
		{api.McAbs, 2, api.Pin{Name: "Position", Type: api.Int, In: true}},
		{api.McAdd, 2, api.Pin{Name: "Distance", Type: api.Int, In: true}},
		{api.McSpeed, 3, api.Pin{Name: "InVelocity", Type: api.Bool}},
		{api.McGear, 0, api.Pin{Name: "Axis", Type: api.Int, In: true}},
		{api.McPercent, 3, api.Pin{Name: "Enabled", Type: api.Bool}},
	} {
		if got := Pins(c.kind)[c.at]; got != c.want {
			t.Errorf("Pins(%d)[%d]: %v, not %v", c.kind, c.at, got, c.want)
		}
	}
}

// P16.1
func TestNames(t *testing.T) {
	for _, r := range table() {
		if got := Name(r.kind); got != r.name {
			t.Errorf("Name(%d): %q, not %q", r.kind, got, r.name)
		}
		if got := Kind(r.name); got != r.kind {
			t.Errorf("Kind(%q): %d, not %d", r.name, got, r.kind)
		}
	}
}

// P16.1: of another kind there are no pins and no name.
func TestNoKinds(t *testing.T) {
	for _, kind := range noKinds() {
		if pins := Pins(kind); len(pins) != 0 {
			t.Errorf("Pins(%d): %v", kind, pins)
		}
		if name := Name(kind); name != "" {
			t.Errorf("Name(%d): %q", kind, name)
		}
	}
}

// nearNames are texts that are nearly this name.
func nearNames(name string) []string {
	near := []string{
		strings.ToLower(name), strings.ToUpper(name), strings.ReplaceAll(name, "_", ""), strings.ReplaceAll(name, "_", "__"),
		strings.ReplaceAll(name, "_", "-"), strings.TrimPrefix(name, "MC_"), "MC_" + name, name + name,
	}
	for i := range len(name) + 1 {
		for _, sign := range []string{"_", " ", "\x00", "1", "x", "S", "ä"} {
			near = append(near, name[:i]+sign+name[i:])
		}
	}
	for i := range name {
		near = append(near, name[:i], name[i+1:], name[:i]+name[i+1:], name[:i]+"x"+name[i+1:])
		near = append(near, name[:i]+string(name[i]^' ')+name[i+1:])
	}
	return near
}

// noNames are texts that are no kind's name.
func noNames() []string {
	none := []string{"", " ", "_", "\x00", "x", "INT", "BOOL", "ARRAY", "1", "10", "MC_", "MC_Move", "MC_MoveAbs", "R_TRIG F_TRIG", "TON,TOF", strings.Repeat("T", 1000)}
	known := []string{}
	for _, r := range table() {
		known = append(known, r.name)
		none = append(none, nearNames(r.name)...)
		for _, pin := range strings.Fields(r.pins) {
			none = append(none, strings.Trim(pin, "><#?_"), pin)
		}
	}
	return slices.DeleteFunc(none, func(name string) bool { return slices.Contains(known, name) })
}

// P16.1
func TestNoNames(t *testing.T) {
	for _, name := range noNames() {
		if kind := Kind(name); kind != 0 {
			t.Errorf("Kind(%q): %d", name, kind)
		}
	}
}

// Rule 3 of the document's 'Rules that hold everywhere': what is answered is new memory, its spare room, too.
func TestPinsAreNew(t *testing.T) {
	for _, r := range table() {
		first := Pins(r.kind)
		second := Pins(r.kind)
		for i := range first[:cap(first)] {
			first[:cap(first)][i] = api.Pin{Name: "other", Type: 99, In: true}
		}
		if allTold(second) != r.pins || allTold(Pins(r.kind)) != r.pins {
			t.Errorf("Pins(%d) are shared", r.kind)
		}
	}
}
