package std

import (
	"math"
	"slices"

	"servitor/api"
)

// Step: a call.
func Step(kind int, cells []int64) []int64 {
	c := slices.Clone(cells)
	if len(c) != len(Pins(kind)) {
		return c
	}
	switch kind {
	case api.TON:
		onDelay(c)
	case api.TOF:
		offDelay(c)
	case api.TP:
		pulse(c)
	case api.CTU:
		countUp(c)
	case api.CTD:
		countDown(c)
	case api.RTrig:
		rising(c)
	case api.FTrig:
		falling(c)
	case api.SR:
		setFirst(c)
	case api.RS:
		resetFirst(c)
	}
	return c
}

// onDelay is a TON's call.
func onDelay(c []int64) {
	in, pt, q, et := truth(c[0]), c[1], &c[2], &c[3]
	if !in {
		*q, *et = 0, 0
		return
	}
	*et = upTo(*et, pt)
	*q = laid(*et >= pt)
}

// offDelay is a TOF's call.
func offDelay(c []int64) {
	in, pt, q, et := truth(c[0]), c[1], &c[2], &c[3]
	if in {
		*q, *et = 1, 0
	} else if truth(*q) {
		*et = upTo(*et, pt)
		*q = laid(*et < pt)
	}
}

// pulse is a TP's call.
func pulse(c []int64) {
	in, pt, q, et, was, runs := truth(c[0]), c[1], &c[2], &c[3], &c[4], &c[5]
	if in && !truth(*was) && !truth(*runs) {
		*runs, *et = 1, 0
	}
	if truth(*runs) {
		on := laid(*et < pt)
		*et = upTo(*et, pt)
		*q, *runs = on, on
	}
	*was = laid(in)
}

// countUp is a CTU's call.
func countUp(c []int64) {
	up, reset, pv, q, cv, was := truth(c[0]), truth(c[1]), c[2], &c[3], &c[4], &c[5]
	if reset {
		*cv = 0
	} else if up && !truth(*was) {
		*cv = upTo(*cv, math.MaxInt64)
	}
	*q, *was = laid(*cv >= pv), laid(up)
}

// countDown is a CTD's call.
func countDown(c []int64) {
	down, load, pv, q, cv, was := truth(c[0]), truth(c[1]), c[2], &c[3], &c[4], &c[5]
	if load {
		*cv = pv
	} else if down && !truth(*was) && *cv > math.MinInt64 {
		*cv--
	}
	*q, *was = laid(*cv <= 0), laid(down)
}

// rising is an R_TRIG's call.
func rising(c []int64) {
	clock, q, was := truth(c[0]), &c[1], &c[2]
	*q, *was = laid(clock && !truth(*was)), laid(clock)
}

// falling is an F_TRIG's call.
func falling(c []int64) {
	clock, q, was := truth(c[0]), &c[1], &c[2]
	*q, *was = laid(truth(*was) && !clock), laid(clock)
}

// setFirst is an SR's call.
func setFirst(c []int64) {
	set, reset, q := truth(c[0]), truth(c[1]), &c[2]
	*q = laid(set || truth(*q) && !reset)
}

// resetFirst is an RS' call.
func resetFirst(c []int64) {
	set, reset, q := truth(c[0]), truth(c[1]), &c[2]
	*q = laid(!reset && (truth(*q) || set))
}

// truth that a cell is: any number but 0 counts as true.
func truth(n int64) bool { return n != 0 }

// laid is a truth as a cell has it.
func laid(b bool) int64 {
	if b {
		return 1
	}
	return 0
}

// upTo goes up by 1, if n is below what is most.
func upTo(n, most int64) int64 {
	if n < most {
		return n + 1
	}
	return n
}
