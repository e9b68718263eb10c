package gen

import (
	"math"
	"math/big"
	"testing"

	"servitor/api"
)

// The chapter's limits, written out: a change of what counts as right must not go by unseen.
const (
	maxPlace = 1099511627776
	maxSpeed = 1048576
	maxGain  = 1048576
)

// plain are the limits of the chapter's example.
func plain() api.Limits { return api.Limits{Vel: 5, Acc: 2, Dec: 3, Lo: -100, Hi: 100} }

// widest are right limits with everything as great as may be.
func widest() api.Limits {
	return api.Limits{Vel: maxSpeed, Acc: maxGain, Dec: maxGain, Lo: -maxPlace, Hi: maxPlace}
}

// far are numbers beyond every range that the chapter names; some are in one by their lower half.
func far() []int64 {
	return []int64{math.MinInt64, math.MinInt64 + 1, math.MinInt64 + 10, -1 << 62, 5 - 1<<62, 1 << 62, 1<<62 + 5, math.MaxInt64 - 10, math.MaxInt64 - 1, math.MaxInt64}
}

// kept is the number from lo to hi that is nearest to n.
func kept(n, lo, hi int64) int64 {
	if n < lo {
		return lo
	}
	if n > hi {
		return hi
	}
	return n
}

// walked is the way behind v, down to a speed, summed up cycle by cycle.
func walked(v, to, dec int64) int64 {
	sum := int64(0)
	for v -= dec; v > to; v -= dec {
		sum += v
	}
	return sum
}

// size of a number, without its sign.
func size(n int64) int64 {
	if n < 0 {
		return -n
	}
	return n
}

// turned is the mirror image of limits: up is down.
func turned(l api.Limits) api.Limits {
	l.Lo, l.Hi = -l.Hi, -l.Lo
	return l
}

// turnedGen is the mirror image of a generator.
func turnedGen(g api.Gen) api.Gen { return api.Gen{Pos: -g.Pos, Vel: -g.Vel} }

// isRight is the chapter's word for limits, asked bound by bound.
func isRight(l api.Limits) bool {
	if l.Vel < 1 || l.Vel > maxSpeed || l.Acc < 1 || l.Acc > maxGain || l.Dec < 1 || l.Dec > maxGain {
		return false
	}
	return l.Lo >= -maxPlace && l.Lo <= maxPlace && l.Hi >= -maxPlace && l.Hi <= maxPlace && l.Lo <= l.Hi
}

// isSafe is the chapter's word for a generator, with room for all numbers; what it loses in a cycle is right.
func isSafe(l api.Limits, g api.Gen) bool {
	if g.Pos < l.Lo || g.Pos > l.Hi || g.Vel > maxSpeed || g.Vel < -maxSpeed {
		return false
	}
	room := new(big.Int)
	if g.Vel > 0 {
		room.Sub(big.NewInt(l.Hi), big.NewInt(g.Pos))
	} else if g.Vel < 0 {
		room.Sub(big.NewInt(g.Pos), big.NewInt(l.Lo))
	}
	return big.NewInt(walked(size(g.Vel), 0, l.Dec)).Cmp(room) <= 0
}

// mayHave is the chapter's word for one speed of the next cycle, of a generator that is safe.
func mayHave(l api.Limits, g api.Gen, w int64) bool {
	if g.Vel < 0 || g.Vel == 0 && w < 0 {
		return mayHave(turned(l), turnedGen(g), -w)
	}
	least := g.Vel - l.Dec
	if least < 0 {
		least = 0
	}
	if w <= least {
		return w == least
	}
	return w <= g.Vel+l.Acc && w <= l.Vel && w+walked(w, 0, l.Dec) <= l.Hi-g.Pos
}

// mayEnds are the least and the greatest speed that mayHave allows, sought one by one.
func mayEnds(l api.Limits, g api.Gen) (int64, int64) {
	least, most := int64(0), int64(0)
	for most = size(g.Vel) + l.Acc + l.Vel; !mayHave(l, g, most); most-- {
	}
	for least = -size(g.Vel) - l.Acc - l.Vel; !mayHave(l, g, least); least++ {
	}
	return least, most
}

// wanted is the chapter's word for To, the speeds sought one by one.
func wanted(l api.Limits, g api.Gen, t, v int64) int64 {
	t, v = kept(t, l.Lo, l.Hi), kept(v, 0, maxSpeed)
	if t < g.Pos {
		return -wanted(turned(l), turnedGen(g), -t, v)
	}
	if t == g.Pos || g.Vel < 0 {
		return 0
	}
	w := int64(0)
	for w < v && w+1+walked(w+1, 0, l.Dec) <= t-g.Pos {
		w++
	}
	return w
}

// wantedBy is the chapter's word for By, the speeds sought one by one.
func wantedBy(l api.Limits, g api.Gen, t, u, s, v int64) int64 {
	t, s = kept(t, l.Lo, l.Hi), kept(s, l.Lo, l.Hi)
	u, v = kept(u, 0, maxSpeed), kept(v, 0, maxSpeed)
	if t < g.Pos {
		return -wantedBy(turned(l), turnedGen(g), -t, u, -s, v)
	}
	if t == g.Pos || s <= g.Pos || g.Vel < 0 {
		return 0
	}
	w := int64(0)
	for w < v && w+1+walked(w+1, 0, l.Dec) <= s-g.Pos && (w+1 <= u || w+1+walked(w+1, u, l.Dec) <= t-g.Pos) {
		w++
	}
	return w
}

// smallLimits are right ones of small numbers, with ranges that hold 0 and that don't, and one of a single place.
func smallLimits() []api.Limits {
	l := []api.Limits{}
	for _, vel := range []int64{1, 2, 5, 9} {
		for _, acc := range []int64{1, 2, 4, 11} {
			for _, dec := range []int64{1, 2, 3, 5, 20} {
				l = append(l, api.Limits{Vel: vel, Acc: acc, Dec: dec, Lo: -8, Hi: 13})
			}
		}
	}
	return append(l,
		api.Limits{Vel: 4, Acc: 3, Dec: 2, Lo: 7, Hi: 7},
		api.Limits{Vel: 4, Acc: 2, Dec: 3, Lo: 5, Hi: 19},
		api.Limits{Vel: 3, Acc: 5, Dec: 1, Lo: -19, Hi: -5},
		api.Limits{Vel: 6, Acc: 1, Dec: 4, Lo: -maxPlace, Hi: 9 - maxPlace},
		api.Limits{Vel: 6, Acc: 4, Dec: 1, Lo: maxPlace - 9, Hi: maxPlace})
}

// safeGens are all generators of small speeds that are safe, those above Vel, too.
func safeGens(l api.Limits) []api.Gen {
	gens := []api.Gen{}
	for pos := l.Lo; pos <= l.Hi; pos++ {
		for v := int64(-12); v <= 12; v++ {
			if g := (api.Gen{Pos: pos, Vel: v}); isSafe(l, g) {
				gens = append(gens, g)
			}
		}
	}
	return gens
}

// wrongLimits are limits with one bound just missed, or far off.
func wrongLimits() []api.Limits {
	wrong := []api.Limits{{}}
	change := func(f func(l *api.Limits)) {
		for _, l := range []api.Limits{plain(), widest()} {
			f(&l)
			wrong = append(wrong, l)
		}
	}
	for _, n := range append(far(), -1, 0, maxSpeed+1, maxSpeed+2, 1<<32+1) {
		change(func(l *api.Limits) { l.Vel = n })
		change(func(l *api.Limits) { l.Acc = n })
		change(func(l *api.Limits) { l.Dec = n })
	}
	for _, n := range append(far(), -maxPlace-1, maxPlace+1, 1<<41) {
		change(func(l *api.Limits) { l.Lo = n })
		change(func(l *api.Limits) { l.Hi = n })
		change(func(l *api.Limits) { l.Lo, l.Hi = n, n })
	}
	change(func(l *api.Limits) { l.Lo, l.Hi = 1, 0 })
	change(func(l *api.Limits) { l.Lo, l.Hi = 0, -1 })
	change(func(l *api.Limits) { l.Lo, l.Hi = maxPlace, maxPlace-1 })
	change(func(l *api.Limits) { l.Lo, l.Hi = maxPlace, -maxPlace })
	change(func(l *api.Limits) { l.Lo, l.Hi = math.MinInt64, math.MaxInt64 })
	return wrong
}

// unsafeGens are generators that are beyond the limits of plain and of widest, too fast, or can't stop within plain.
func unsafeGens() []api.Gen {
	l := []api.Gen{
		{Pos: maxPlace + 1}, {Pos: -maxPlace - 1}, {Pos: maxPlace + 1, Vel: -1}, {Pos: -maxPlace - 1, Vel: 1},
		{Vel: maxSpeed + 1}, {Vel: -maxSpeed - 1}, {Vel: 1<<32 + 1}, {Vel: -1<<32 - 1},
	}
	for _, n := range far() {
		l = append(l, api.Gen{Pos: n}, api.Gen{Vel: n}, api.Gen{Pos: n, Vel: n}, api.Gen{Pos: n, Vel: -1 - n})
	}
	return l
}

// P9.1
func TestRight(t *testing.T) {
	for _, l := range []api.Limits{
		plain(),
		widest(),
		{Vel: 1, Acc: 1, Dec: 1},
		{Vel: maxSpeed, Acc: 1, Dec: 1},
		{Vel: 1, Acc: maxGain, Dec: 1},
		{Vel: 1, Acc: 1, Dec: maxGain},
		{Vel: 1, Acc: 1, Dec: 1, Lo: -maxPlace, Hi: -maxPlace},
		{Vel: 1, Acc: 1, Dec: 1, Lo: maxPlace, Hi: maxPlace},
		{Vel: 1, Acc: 1, Dec: 1, Lo: maxPlace - 1, Hi: maxPlace},
		{Vel: 1, Acc: 1, Dec: 1, Lo: -maxPlace, Hi: 1 - maxPlace},
		{Vel: 1, Acc: 1, Dec: 1, Lo: 5, Hi: 5},
		{Vel: 1, Acc: 1, Dec: 1, Lo: -6, Hi: -5},
	} {
		if !Right(l) {
			t.Errorf("%+v isn't right", l)
		}
	}
	for _, l := range wrongLimits() {
		if Right(l) {
			t.Errorf("%+v is right", l)
		}
	}
}

// P9.1: each bound with each of numbers that meet it just, or miss it.
func TestRightBoundByBound(t *testing.T) {
	try := func(l api.Limits) {
		t.Helper()
		if Right(l) != isRight(l) {
			t.Errorf("Right(%+v): %v", l, Right(l))
		}
	}
	ends := append(far(), -maxPlace-1, -maxPlace, -maxPlace+1, -maxSpeed, -1, 0, 1, 2, maxSpeed-1, maxSpeed, maxSpeed+1, maxPlace-1, maxPlace, maxPlace+1)
	for _, n := range ends {
		l := plain()
		l.Vel = n
		try(l)
		l = plain()
		l.Acc = n
		try(l)
		l = plain()
		l.Dec = n
		try(l)
		for _, m := range ends {
			l = plain()
			l.Lo, l.Hi = n, m
			try(l)
		}
	}
}

// P9.1
func TestSafe(t *testing.T) {
	slow := api.Limits{Vel: maxSpeed, Acc: 1, Dec: 1, Lo: -maxPlace, Hi: maxPlace}
	for _, c := range []struct {
		l    api.Limits
		g    api.Gen
		safe bool
	}{
		{plain(), api.Gen{}, true},
		{plain(), api.Gen{Pos: 100}, true},
		{plain(), api.Gen{Pos: 101}, false},
		{plain(), api.Gen{Pos: -100}, true},
		{plain(), api.Gen{Pos: -101}, false},
		{plain(), api.Gen{Pos: 100, Vel: 3}, true},
		{plain(), api.Gen{Pos: 100, Vel: 4}, false},
		{plain(), api.Gen{Pos: 99, Vel: 4}, true},
		{plain(), api.Gen{Pos: 99, Vel: 5}, false},
		{plain(), api.Gen{Pos: 88, Vel: 10}, true},
		{plain(), api.Gen{Pos: 89, Vel: 10}, false},
		{plain(), api.Gen{Pos: -100, Vel: -3}, true},
		{plain(), api.Gen{Pos: -100, Vel: -4}, false},
		{plain(), api.Gen{Pos: -99, Vel: -4}, true},
		{plain(), api.Gen{Pos: -99, Vel: -5}, false},
		{plain(), api.Gen{Pos: -88, Vel: -10}, true},
		{plain(), api.Gen{Pos: -89, Vel: -10}, false},
		// It goes away from the end that is near.
		{plain(), api.Gen{Pos: 100, Vel: -10}, true},
		{plain(), api.Gen{Pos: -100, Vel: 10}, true},
		{plain(), api.Gen{Pos: 101, Vel: -1}, false},
		{plain(), api.Gen{Pos: -101, Vel: 1}, false},
		{slow, api.Gen{Pos: maxPlace - 549755289600, Vel: maxSpeed}, true},
		{slow, api.Gen{Pos: maxPlace - 549755289599, Vel: maxSpeed}, false},
		{slow, api.Gen{Pos: 549755289600 - maxPlace, Vel: -maxSpeed}, true},
		{slow, api.Gen{Pos: 549755289599 - maxPlace, Vel: -maxSpeed}, false},
		{slow, api.Gen{Pos: -maxPlace, Vel: maxSpeed}, true},
		{slow, api.Gen{Pos: -maxPlace, Vel: maxSpeed + 1}, false},
		{widest(), api.Gen{Vel: maxSpeed}, true},
		{widest(), api.Gen{Vel: maxSpeed + 1}, false},
		{widest(), api.Gen{Vel: -maxSpeed}, true},
		{widest(), api.Gen{Vel: -maxSpeed - 1}, false},
		{widest(), api.Gen{Pos: maxPlace, Vel: maxSpeed}, true},
		{widest(), api.Gen{Pos: -maxPlace, Vel: -maxSpeed}, true},
		{api.Limits{Vel: 1, Acc: 1, Dec: 1}, api.Gen{}, true},
		{api.Limits{Vel: 1, Acc: 1, Dec: 1}, api.Gen{Vel: 1}, true},
		{api.Limits{Vel: 1, Acc: 1, Dec: 1}, api.Gen{Vel: 2}, false},
		{api.Limits{Vel: 1, Acc: 1, Dec: 1}, api.Gen{Vel: -2}, false},
		{api.Limits{Vel: 1, Acc: 1, Dec: 1}, api.Gen{Pos: 1}, false},
	} {
		if Safe(c.l, c.g) != c.safe {
			t.Errorf("Safe(%+v, %+v): %v", c.l, c.g, !c.safe)
		}
	}
}

// P9.1
func TestUnsafeBeyond(t *testing.T) {
	for _, g := range unsafeGens() {
		if Safe(plain(), g) || Safe(widest(), g) {
			t.Errorf("%+v is safe", g)
		}
	}
}

// P9.1
func TestSmallSafe(t *testing.T) {
	for _, l := range smallLimits() {
		for pos := l.Lo - 3; pos <= l.Hi+3; pos++ {
			for v := int64(-30); v <= 30; v++ {
				g := api.Gen{Pos: pos, Vel: v}
				if Safe(l, g) != isSafe(l, g) {
					t.Errorf("Safe(%+v, %+v): %v", l, g, Safe(l, g))
				}
			}
		}
	}
}

// P9.1: whether a generator is safe is asked of the numbers alone, also where the limits lie farther apart than a number with a sign holds.
func TestSafeInLimitsThatAreNotRight(t *testing.T) {
	for _, lo := range []int64{math.MinInt64, -1 << 62, -maxPlace - 1, 0} {
		for _, hi := range []int64{0, maxPlace + 1, 1 << 62, math.MaxInt64} {
			l := api.Limits{Dec: 7, Lo: lo, Hi: hi}
			for _, pos := range append(far(), lo, lo+1, lo+100, -1, 0, 1, hi-100, hi-1, hi) {
				for _, v := range []int64{math.MinInt64, -maxSpeed - 1, -maxSpeed, -100, -8, -7, 0, 7, 8, 100, maxSpeed, maxSpeed + 1, math.MaxInt64} {
					g := api.Gen{Pos: pos, Vel: v}
					if Safe(l, g) != isSafe(l, g) {
						t.Errorf("Safe(%+v, %+v): %v", l, g, Safe(l, g))
					}
				}
			}
		}
	}
}

// P9.1
func TestMay(t *testing.T) {
	slow := api.Limits{Vel: maxSpeed, Acc: 1, Dec: 1, Lo: -maxPlace, Hi: maxPlace}
	quick := api.Limits{Vel: 5, Acc: 9, Dec: 20, Lo: -100, Hi: 100}
	for _, c := range []struct {
		l           api.Limits
		g           api.Gen
		least, most int64
	}{
		// At rest: Acc, Vel and Reach in turn are the least, on both sides.
		{plain(), api.Gen{}, -2, 2},
		{plain(), api.Gen{Pos: 98}, -2, 2},
		{plain(), api.Gen{Pos: 99}, -2, 1},
		{plain(), api.Gen{Pos: 100}, -2, 0},
		{plain(), api.Gen{Pos: -98}, -2, 2},
		{plain(), api.Gen{Pos: -99}, -1, 2},
		{plain(), api.Gen{Pos: -100}, 0, 2},
		{quick, api.Gen{}, -5, 5},
		{quick, api.Gen{Pos: 95}, -5, 5},
		{quick, api.Gen{Pos: 96}, -5, 4},
		{quick, api.Gen{Pos: -97}, -3, 5},
		{api.Limits{Vel: 1, Acc: 1, Dec: 1}, api.Gen{}, 0, 0},
		// Acc is the least, and what it loses is more than its speed.
		{plain(), api.Gen{Vel: 1}, 0, 3},
		{plain(), api.Gen{Vel: 2}, 0, 4},
		{plain(), api.Gen{Vel: -1}, -3, 0},
		{plain(), api.Gen{Vel: -2}, -4, 0},
		// Vel is the least.
		{plain(), api.Gen{Vel: 3}, 0, 5},
		{plain(), api.Gen{Vel: 4}, 1, 5},
		{plain(), api.Gen{Vel: 5}, 2, 5},
		{plain(), api.Gen{Vel: -3}, -5, 0},
		{plain(), api.Gen{Vel: -4}, -5, -1},
		{plain(), api.Gen{Vel: -5}, -5, -2},
		// Reach is the least.
		{plain(), api.Gen{Pos: 95, Vel: 5}, 2, 4},
		{plain(), api.Gen{Pos: 94, Vel: 5}, 2, 4},
		{plain(), api.Gen{Pos: 93, Vel: 5}, 2, 5},
		{plain(), api.Gen{Pos: 98, Vel: 5}, 2, 2},
		{plain(), api.Gen{Pos: 98, Vel: 4}, 1, 2},
		{plain(), api.Gen{Pos: 99, Vel: 4}, 1, 1},
		{plain(), api.Gen{Pos: 100, Vel: 3}, 0, 0},
		{plain(), api.Gen{Pos: 99, Vel: 3}, 0, 1},
		{plain(), api.Gen{Pos: -95, Vel: -5}, -4, -2},
		{plain(), api.Gen{Pos: -98, Vel: -5}, -2, -2},
		{plain(), api.Gen{Pos: -99, Vel: -3}, -1, 0},
		{plain(), api.Gen{Pos: -100, Vel: -1}, 0, 0},
		// It goes away from an end: that end doesn't count.
		{plain(), api.Gen{Pos: 100, Vel: -5}, -5, -2},
		{plain(), api.Gen{Pos: -100, Vel: 5}, 2, 5},
		// What is left of its speed is at Vel, or above it.
		{plain(), api.Gen{Vel: 7}, 4, 5},
		{plain(), api.Gen{Vel: 8}, 5, 5},
		{plain(), api.Gen{Vel: 9}, 6, 6},
		{plain(), api.Gen{Vel: 20}, 17, 17},
		{plain(), api.Gen{Vel: -7}, -5, -4},
		{plain(), api.Gen{Vel: -8}, -5, -5},
		{plain(), api.Gen{Vel: -9}, -6, -6},
		{plain(), api.Gen{Vel: -20}, -17, -17},
		{widest(), api.Gen{}, -maxSpeed, maxSpeed},
		{widest(), api.Gen{Vel: 1}, 0, maxSpeed},
		{widest(), api.Gen{Vel: maxSpeed}, 0, maxSpeed},
		{widest(), api.Gen{Vel: -maxSpeed}, -maxSpeed, 0},
		{widest(), api.Gen{Pos: maxPlace}, -maxSpeed, 0},
		{widest(), api.Gen{Pos: -maxPlace}, 0, maxSpeed},
		{widest(), api.Gen{Pos: maxPlace - maxSpeed}, -maxSpeed, maxSpeed},
		{widest(), api.Gen{Pos: maxPlace - maxSpeed + 1}, -maxSpeed, maxSpeed - 1},
		{widest(), api.Gen{Pos: maxPlace, Vel: maxSpeed}, 0, 0},
		{slow, api.Gen{}, -1, 1},
		{slow, api.Gen{Vel: maxSpeed}, maxSpeed - 1, maxSpeed},
		{slow, api.Gen{Vel: maxSpeed - 1}, maxSpeed - 2, maxSpeed},
		{slow, api.Gen{Pos: maxPlace - 549755289600, Vel: maxSpeed}, maxSpeed - 1, maxSpeed - 1},
		{slow, api.Gen{Pos: maxPlace - 549756338176, Vel: maxSpeed}, maxSpeed - 1, maxSpeed},
		{slow, api.Gen{Pos: maxPlace - 549756338175, Vel: maxSpeed}, maxSpeed - 1, maxSpeed - 1},
		{api.Limits{Vel: 1, Acc: 1, Dec: 1, Lo: -maxPlace, Hi: maxPlace}, api.Gen{Vel: maxSpeed}, maxSpeed - 1, maxSpeed - 1},
	} {
		if least, most := May(c.l, c.g); least != c.least || most != c.most {
			t.Errorf("May(%+v, %+v): %d, %d, not %d, %d", c.l, c.g, least, most, c.least, c.most)
		}
	}
}

// P9.1
func TestSmallMay(t *testing.T) {
	for _, l := range smallLimits() {
		for _, g := range safeGens(l) {
			wantLeast, wantMost := mayEnds(l, g)
			if least, most := May(l, g); least != wantLeast || most != wantMost {
				t.Errorf("May(%+v, %+v): %d, %d, not %d, %d", l, g, least, most, wantLeast, wantMost)
			}
		}
	}
}

// P9.1
func TestStep(t *testing.T) {
	for _, c := range []struct {
		l    api.Limits
		g    api.Gen
		want int64
		next api.Gen
	}{
		// Below, at both ends, within, and above what it may have.
		{plain(), api.Gen{Pos: 10, Vel: 4}, -3, api.Gen{Pos: 11, Vel: 1}},
		{plain(), api.Gen{Pos: 10, Vel: 4}, 0, api.Gen{Pos: 11, Vel: 1}},
		{plain(), api.Gen{Pos: 10, Vel: 4}, 1, api.Gen{Pos: 11, Vel: 1}},
		{plain(), api.Gen{Pos: 10, Vel: 4}, 3, api.Gen{Pos: 13, Vel: 3}},
		{plain(), api.Gen{Pos: 10, Vel: 4}, 5, api.Gen{Pos: 15, Vel: 5}},
		{plain(), api.Gen{Pos: 10, Vel: 4}, 6, api.Gen{Pos: 15, Vel: 5}},
		{plain(), api.Gen{Pos: 10, Vel: -4}, 9, api.Gen{Pos: 9, Vel: -1}},
		{plain(), api.Gen{Pos: 10, Vel: -4}, -3, api.Gen{Pos: 7, Vel: -3}},
		{plain(), api.Gen{Pos: 10, Vel: -4}, -9, api.Gen{Pos: 5, Vel: -5}},
		{plain(), api.Gen{Pos: 10}, 9, api.Gen{Pos: 12, Vel: 2}},
		{plain(), api.Gen{Pos: 10}, -1, api.Gen{Pos: 9, Vel: -1}},
		{plain(), api.Gen{Pos: 10}, 0, api.Gen{Pos: 10}},
		{plain(), api.Gen{Pos: 10}, -9, api.Gen{Pos: 8, Vel: -2}},
		{plain(), api.Gen{Pos: 100}, 9, api.Gen{Pos: 100}},
		{plain(), api.Gen{Vel: 9}, 0, api.Gen{Pos: 6, Vel: 6}},
		{plain(), api.Gen{Vel: 9}, 9, api.Gen{Pos: 6, Vel: 6}},
		{plain(), api.Gen{}, math.MaxInt64, api.Gen{Pos: 2, Vel: 2}},
		{plain(), api.Gen{}, math.MinInt64, api.Gen{Pos: -2, Vel: -2}},
		{widest(), api.Gen{}, math.MaxInt64, api.Gen{Pos: maxSpeed, Vel: maxSpeed}},
		{widest(), api.Gen{}, math.MinInt64, api.Gen{Pos: -maxSpeed, Vel: -maxSpeed}},
		{widest(), api.Gen{Pos: maxPlace, Vel: maxSpeed}, math.MaxInt64, api.Gen{Pos: maxPlace}},
		{widest(), api.Gen{Pos: -maxPlace, Vel: -maxSpeed}, math.MinInt64, api.Gen{Pos: -maxPlace}},
		{widest(), api.Gen{Pos: maxPlace - 1}, 7, api.Gen{Pos: maxPlace, Vel: 1}},
	} {
		if next := Step(c.l, c.g, c.want); next != c.next {
			t.Errorf("Step(%+v, %+v, %d): %+v, not %+v", c.l, c.g, c.want, next, c.next)
		}
	}
}

// stepped is the chapter's word for Step, by the least and the greatest speed that it may have.
func stepped(g api.Gen, want, least, most int64) api.Gen {
	v := kept(want, least, most)
	return api.Gen{Pos: g.Pos + v, Vel: v}
}

// P9.1
func TestSmallStep(t *testing.T) {
	for i, l := range smallLimits() {
		if i%3 != 0 {
			continue
		}
		for _, g := range safeGens(l) {
			least, most := mayEnds(l, g)
			for _, want := range []int64{math.MinInt64, -1 << 32, -14, -7, -3, -2, -1, 0, 1, 2, 3, 7, 14, 1 << 32, math.MaxInt64, least - 1, least, most, most + 1} {
				if next := Step(l, g, want); next != stepped(g, want, least, most) {
					t.Errorf("Step(%+v, %+v, %d): %+v, not %+v", l, g, want, next, stepped(g, want, least, most))
				}
			}
		}
	}
}

// P9.1
func TestTo(t *testing.T) {
	for _, c := range []struct {
		l          api.Limits
		g          api.Gen
		t, v, want int64
	}{
		{plain(), api.Gen{}, 20, 5, 5},
		{plain(), api.Gen{}, 20, 9, 9},
		{plain(), api.Gen{}, 20, 10, 9},
		{plain(), api.Gen{}, 22, 100, 10},
		{plain(), api.Gen{}, 21, 100, 9},
		{plain(), api.Gen{}, -22, 100, -10},
		{plain(), api.Gen{}, -20, 5, -5},
		{plain(), api.Gen{}, 1, 5, 1},
		{plain(), api.Gen{}, -1, 5, -1},
		// At the place, at rest, or on its way by it.
		{plain(), api.Gen{Pos: 20}, 20, 5, 0},
		{plain(), api.Gen{Pos: 20, Vel: 5}, 20, 5, 0},
		{plain(), api.Gen{Pos: 20, Vel: -5}, 20, 5, 0},
		// Towards it, and the other way.
		{plain(), api.Gen{Vel: 1}, 20, 5, 5},
		{plain(), api.Gen{Vel: -1}, 20, 5, 0},
		{plain(), api.Gen{Vel: -1}, -20, 5, -5},
		{plain(), api.Gen{Vel: 1}, -20, 5, 0},
		// Too fast for it already.
		{plain(), api.Gen{Vel: 5}, 1, 5, 1},
		{plain(), api.Gen{Vel: 9}, 40, 5, 5},
		// Speeds that are none.
		{plain(), api.Gen{}, 20, 0, 0},
		{plain(), api.Gen{}, 20, -1, 0},
		{plain(), api.Gen{}, -20, -1, 0},
		{plain(), api.Gen{}, 20, math.MinInt64, 0},
		{plain(), api.Gen{}, -20, math.MinInt64, 0},
		{plain(), api.Gen{}, 22, math.MaxInt64, 10},
		{plain(), api.Gen{}, -22, math.MaxInt64, -10},
		{widest(), api.Gen{}, maxPlace, maxSpeed + 1, maxSpeed},
		{widest(), api.Gen{}, maxPlace, math.MaxInt64, maxSpeed},
		{widest(), api.Gen{}, -maxPlace, maxSpeed + 1, -maxSpeed},
		{widest(), api.Gen{Pos: maxPlace}, -maxPlace, maxSpeed, -maxSpeed},
		{widest(), api.Gen{Pos: -maxPlace}, maxPlace, maxSpeed - 1, maxSpeed - 1},
		// Places beyond the limits.
		{plain(), api.Gen{Pos: 100}, 101, 5, 0},
		{plain(), api.Gen{Pos: 100}, math.MaxInt64, 5, 0},
		{plain(), api.Gen{Pos: 99}, 120, 5, 1},
		{plain(), api.Gen{Pos: 99}, math.MaxInt64, 5, 1},
		{plain(), api.Gen{Pos: -100}, -101, 5, 0},
		{plain(), api.Gen{Pos: -100}, math.MinInt64, 5, 0},
		{plain(), api.Gen{Pos: -98}, math.MinInt64, 5, -2},
		{plain(), api.Gen{Pos: 100, Vel: 1}, 101, 5, 0},
		{plain(), api.Gen{Pos: 78}, math.MaxInt64, math.MaxInt64, 10},
		{plain(), api.Gen{Pos: -78}, math.MinInt64, math.MaxInt64, -10},
		{plain(), api.Gen{Pos: -90}, math.MaxInt64, 20, 20},
		{plain(), api.Gen{Pos: 90}, math.MinInt64, 20, -20},
	} {
		if want := To(c.l, c.g, c.t, c.v); want != c.want {
			t.Errorf("To(%+v, %+v, %d, %d): %d, not %d", c.l, c.g, c.t, c.v, want, c.want)
		}
	}
}

// P9.1
func TestSmallTo(t *testing.T) {
	for i, l := range smallLimits() {
		if i%3 != 1 {
			continue
		}
		for _, g := range safeGens(l) {
			for place := l.Lo - 2; place <= l.Hi+2; place++ {
				for _, v := range []int64{math.MinInt64, -2, 0, 1, 2, 4, 40, maxSpeed + 1} {
					if want := To(l, g, place, v); want != wanted(l, g, place, v) {
						t.Errorf("To(%+v, %+v, %d, %d): %d, not %d", l, g, place, v, want, wanted(l, g, place, v))
					}
				}
			}
		}
	}
}

// P9.1
func TestBy(t *testing.T) {
	for _, c := range []struct {
		l                api.Limits
		g                api.Gen
		t, u, s, v, want int64
	}{
		// V, Reach and Pass in turn are the least.
		{plain(), api.Gen{}, 17, 4, 50, 5, 5},
		{plain(), api.Gen{}, 17, 4, 50, 99, 10},
		{plain(), api.Gen{}, 16, 4, 50, 99, 9},
		{plain(), api.Gen{}, 17, 4, 22, 99, 10},
		{plain(), api.Gen{}, 17, 4, 21, 99, 9},
		{plain(), api.Gen{}, 17, 0, 50, 99, 8},
		{plain(), api.Gen{}, 3, 40, 22, 99, 10},
		{plain(), api.Gen{}, 3, 40, 21, 99, 9},
		{plain(), api.Gen{}, 1, 4, 50, 99, 4},
		{plain(), api.Gen{}, -17, 4, -50, 99, -10},
		{plain(), api.Gen{}, -16, 4, -50, 99, -9},
		{plain(), api.Gen{}, -17, 4, -21, 99, -9},
		{plain(), api.Gen{}, -17, 4, -50, 5, -5},
		// The place to stop at is nearer than the one to come by.
		{plain(), api.Gen{}, 50, 4, 22, 99, 10},
		{plain(), api.Gen{}, 50, 4, 1, 99, 1},
		{plain(), api.Gen{}, 20, 4, 20, 99, 9},
		// At the place to come by.
		{plain(), api.Gen{Pos: 20}, 20, 4, 50, 5, 0},
		{plain(), api.Gen{Pos: 20, Vel: 4}, 20, 4, 50, 5, 0},
		{plain(), api.Gen{Pos: 20}, 20, 4, 20, 5, 0},
		// The place to stop at is where it is, or lies the other way.
		{plain(), api.Gen{Pos: 20}, 40, 4, 20, 5, 0},
		{plain(), api.Gen{Pos: 20}, 40, 4, 19, 5, 0},
		{plain(), api.Gen{Pos: 20}, 0, 4, 20, 5, 0},
		{plain(), api.Gen{Pos: 20}, 0, 4, 21, 5, 0},
		{plain(), api.Gen{Pos: 20}, 40, 4, 21, 5, 1},
		{plain(), api.Gen{Pos: 20}, 0, 4, 19, 5, -1},
		// Towards the place, and the other way.
		{plain(), api.Gen{Vel: 5}, 17, 4, 50, 99, 10},
		{plain(), api.Gen{Vel: -1}, 17, 4, 50, 99, 0},
		{plain(), api.Gen{Vel: -5}, -17, 4, -50, 99, -10},
		{plain(), api.Gen{Vel: 1}, -17, 4, -50, 99, 0},
		// Speeds that are none.
		{plain(), api.Gen{}, 17, 4, 50, 0, 0},
		{plain(), api.Gen{}, 17, 4, 50, -1, 0},
		{plain(), api.Gen{}, -17, 4, -50, math.MinInt64, 0},
		{plain(), api.Gen{}, 17, -1, 50, 99, 8},
		{plain(), api.Gen{}, 17, math.MinInt64, 50, 99, 8},
		{plain(), api.Gen{}, 17, maxSpeed + 1, 50, math.MaxInt64, 15},
		{plain(), api.Gen{}, -17, math.MaxInt64, -50, math.MaxInt64, -15},
		{widest(), api.Gen{}, 1, math.MaxInt64, maxPlace, math.MaxInt64, maxSpeed},
		{widest(), api.Gen{}, -1, maxSpeed, -maxPlace, maxSpeed + 1, -maxSpeed},
		{widest(), api.Gen{Pos: maxPlace}, -maxPlace, 0, -maxPlace, maxSpeed, -maxSpeed},
		// Places beyond the limits.
		{plain(), api.Gen{Pos: 100}, 101, 4, 200, 5, 0},
		{plain(), api.Gen{Pos: 100}, math.MaxInt64, 4, math.MaxInt64, 5, 0},
		{plain(), api.Gen{Pos: 99}, 99, 4, math.MaxInt64, 5, 0},
		{plain(), api.Gen{Pos: 90}, math.MaxInt64, 4, 99, 99, 6},
		{plain(), api.Gen{Pos: 90}, 99, 4, math.MaxInt64, 99, 6},
		{plain(), api.Gen{Pos: 97}, 99, 9, math.MaxInt64, 99, 3},
		{plain(), api.Gen{Pos: 83}, math.MaxInt64, 4, math.MaxInt64, 99, 8},
		{plain(), api.Gen{Pos: -90}, math.MinInt64, 4, math.MinInt64, 99, -6},
		{plain(), api.Gen{Pos: -97}, -98, 9, math.MinInt64, 99, -3},
		{plain(), api.Gen{Pos: -90}, math.MaxInt64, 4, -60, 99, 12},
		{plain(), api.Gen{Pos: -90}, -60, 99, math.MaxInt64, 20, 20},
		{plain(), api.Gen{Pos: 90}, math.MinInt64, 4, 60, 99, -12},
	} {
		if want := By(c.l, c.g, c.t, c.u, c.s, c.v); want != c.want {
			t.Errorf("By(%+v, %+v, %d, %d, %d, %d): %d, not %d", c.l, c.g, c.t, c.u, c.s, c.v, want, c.want)
		}
	}
}

// tryBy asks for the chapter's word, at some speeds of both kinds.
func tryBy(t *testing.T, l api.Limits, g api.Gen, place, stop int64) {
	t.Helper()
	for _, u := range []int64{math.MinInt64, -3, 0, 1, 3, 6, maxSpeed + 1} {
		for _, v := range []int64{-1, 0, 1, 3, 40, math.MaxInt64} {
			if want := By(l, g, place, u, stop, v); want != wantedBy(l, g, place, u, stop, v) {
				t.Errorf("By(%+v, %+v, %d, %d, %d, %d): %d, not %d", l, g, place, u, stop, v, want, wantedBy(l, g, place, u, stop, v))
			}
		}
	}
}

// P9.1
func TestSmallBy(t *testing.T) {
	for i, l := range smallLimits() {
		if i%9 != 2 {
			continue
		}
		for j, g := range safeGens(l) {
			if j%4 != 0 {
				continue
			}
			for place := l.Lo - 1; place <= l.Hi+1; place += 2 {
				for stop := l.Lo - 1; stop <= l.Hi+1; stop++ {
					tryBy(t, l, g, place, stop)
				}
			}
		}
	}
}

// P9.1
func TestLanded(t *testing.T) {
	for _, c := range []struct {
		g      api.Gen
		t      int64
		landed bool
	}{
		{api.Gen{}, 0, true},
		{api.Gen{Pos: 20}, 20, true},
		{api.Gen{Pos: -20}, -20, true},
		{api.Gen{Pos: -20}, 20, false},
		{api.Gen{Pos: 20}, 19, false},
		{api.Gen{Pos: 20}, 21, false},
		{api.Gen{Pos: 20, Vel: 1}, 20, false},
		{api.Gen{Pos: 20, Vel: -1}, 20, false},
		{api.Gen{Pos: 20, Vel: 1}, 21, false},
		{api.Gen{Vel: 1 << 32}, 0, false},
		{api.Gen{Pos: 1 << 32}, 0, false},
		{api.Gen{Pos: maxPlace}, maxPlace, true},
		{api.Gen{Pos: math.MaxInt64}, math.MaxInt64, true},
		{api.Gen{Pos: math.MaxInt64}, math.MinInt64, false},
		{api.Gen{Pos: math.MinInt64}, math.MinInt64, true},
		{api.Gen{Pos: math.MinInt64, Vel: math.MinInt64}, math.MinInt64, false},
	} {
		if Landed(c.g, c.t) != c.landed {
			t.Errorf("Landed(%+v, %d): %v", c.g, c.t, !c.landed)
		}
	}
}

// tryStays asks that nothing is wanted, and a step changes nothing.
func tryStays(t *testing.T, l api.Limits, g api.Gen) {
	t.Helper()
	if least, most := May(l, g); least != 0 || most != 0 {
		t.Errorf("May(%+v, %+v): %d, %d", l, g, least, most)
	}
	for _, n := range []int64{math.MinInt64, -20, -1, 0, 1, 20, math.MaxInt64} {
		if next := Step(l, g, n); next != g {
			t.Errorf("Step(%+v, %+v, %d): %+v", l, g, n, next)
		}
		if want := To(l, g, n, 5); want != 0 {
			t.Errorf("To(%+v, %+v, %d, 5): %d", l, g, n, want)
		}
		if want := By(l, g, n, 2, n, 5); want != 0 {
			t.Errorf("By(%+v, %+v, %d, 2, %d, 5): %d", l, g, n, n, want)
		}
	}
}

// P9.1
func TestLimitsThatAreNotRight(t *testing.T) {
	for _, l := range wrongLimits() {
		for _, g := range append(unsafeGens(), api.Gen{}, api.Gen{Vel: 4}, api.Gen{Vel: -4}, api.Gen{Pos: l.Lo}, api.Gen{Pos: l.Hi}, api.Gen{Pos: l.Lo, Vel: 3}, api.Gen{Pos: l.Hi, Vel: -3}) {
			tryStays(t, l, g)
		}
	}
}

// P9.1
func TestGeneratorsThatAreNotSafe(t *testing.T) {
	for _, g := range unsafeGens() {
		tryStays(t, plain(), g)
		tryStays(t, widest(), g)
	}
	for _, g := range []api.Gen{
		{Pos: 101}, {Pos: 101, Vel: 1}, {Pos: 101, Vel: -1}, {Pos: -101}, {Pos: -101, Vel: 1}, {Pos: -101, Vel: -1},
		{Pos: 100, Vel: 4}, {Pos: 99, Vel: 5}, {Pos: 89, Vel: 10}, {Pos: -100, Vel: -4}, {Pos: -99, Vel: -5}, {Pos: -89, Vel: -10},
		{Pos: 100, Vel: maxSpeed}, {Vel: -maxSpeed}, {Pos: math.MaxInt64, Vel: math.MinInt64},
	} {
		tryStays(t, plain(), g)
	}
}

// rows are speeds that are wanted, one a cycle, by a rule that mixes them; the first rows jump from end to end.
func rows() [][]int64 {
	all := [][]int64{
		{math.MaxInt64, math.MinInt64},
		{math.MaxInt64},
		{math.MinInt64},
		{0},
		{1, 0, -1, 0},
		{3, 3, 3, -3, -3, -3},
		{9, 9, 9, 9, 9, 0, -9, -9, -9, -9, -9, -9},
		{maxSpeed, maxSpeed, -maxSpeed, maxSpeed + 1, -maxSpeed - 1},
	}
	n := uint64(12345)
	for _, span := range []uint64{5, 25, 3000, 4 * maxSpeed, 1 << 63} {
		row := []int64{}
		for range 97 {
			n = n*6364136223846793005 + 1442695040888963407
			row = append(row, int64(n>>1%span)-int64(span/2))
		}
		all = append(all, row)
	}
	return all
}

// tryKeeps asks for all that P9.2 says of one step.
func tryKeeps(t *testing.T, l api.Limits, g, next api.Gen) {
	t.Helper()
	change := size(next.Vel - g.Vel)
	switch {
	case !isSafe(l, next):
		t.Errorf("%+v: from %+v to %+v, not safe", l, g, next)
	case next.Pos != g.Pos+next.Vel:
		t.Errorf("%+v: from %+v to %+v, not where its speed leads", l, g, next)
	case change > l.Acc && change > l.Dec:
		t.Errorf("%+v: from %+v to %+v, changed by %d", l, g, next, change)
	case size(g.Vel) <= l.Vel && size(next.Vel) > l.Vel:
		t.Errorf("%+v: from %+v to %+v, too fast", l, g, next)
	case g.Vel > 0 && next.Vel < 0 || g.Vel < 0 && next.Vel > 0:
		t.Errorf("%+v: from %+v to %+v, turned", l, g, next)
	}
}

// tryRow goes by a row of speeds again and again.
func tryRow(t *testing.T, l api.Limits, g api.Gen, row []int64, cycles int) {
	t.Helper()
	for i := range cycles {
		next := Step(l, g, row[i%len(row)])
		tryKeeps(t, l, g, next)
		g = next
	}
}

// P9.2
func TestRowsOfSmallLimits(t *testing.T) {
	for i, l := range smallLimits() {
		for j, g := range safeGens(l) {
			if (i+j)%7 != 0 {
				continue
			}
			for _, row := range rows() {
				tryRow(t, l, g, row, 30)
			}
		}
	}
}

// P9.2
func TestRowsOfGreatLimits(t *testing.T) {
	for _, l := range []api.Limits{
		widest(),
		{Vel: maxSpeed, Acc: 12345, Dec: 54321, Lo: -9 * maxSpeed, Hi: 7 * maxSpeed},
		{Vel: maxSpeed, Acc: 54321, Dec: 12345, Lo: -maxPlace, Hi: maxPlace},
		{Vel: 3000, Acc: 100, Dec: maxGain, Lo: -70000, Hi: 70001},
		{Vel: 3000, Acc: maxGain, Dec: 90, Lo: -maxPlace, Hi: 70001 - maxPlace},
		{Vel: maxSpeed - 1, Acc: maxGain, Dec: maxGain - 1, Lo: maxPlace - 2*maxSpeed, Hi: maxPlace},
	} {
		middle := (l.Lo + l.Hi) / 2
		for _, g := range []api.Gen{
			{Pos: l.Lo}, {Pos: l.Hi}, {Pos: middle}, {Pos: middle, Vel: 1}, {Pos: middle, Vel: -1}, {Pos: middle, Vel: 3001}, {Pos: middle, Vel: -3001},
			{Pos: l.Lo, Vel: maxSpeed}, {Pos: l.Hi, Vel: -maxSpeed}, {Pos: l.Hi - 1, Vel: 1}, {Pos: l.Lo + 1, Vel: -1},
		} {
			for _, row := range rows() {
				if isSafe(l, g) {
					tryRow(t, l, g, row, 300)
				}
			}
		}
	}
}

// P9.2: from above Vel, whatever is wanted, it comes down by what it loses each cycle, and stays down.
func TestDownFromAboveVel(t *testing.T) {
	for _, want := range []int64{math.MinInt64, 0, 9, math.MaxInt64} {
		g := api.Gen{Vel: 14}
		for _, v := range []int64{11, 8} {
			g = Step(plain(), g, want)
			if g.Vel != v {
				t.Errorf("%d is wanted: at %d, not %d", want, g.Vel, v)
			}
		}
		for range 9 {
			if g = Step(plain(), g, want); size(g.Vel) > 5 {
				t.Errorf("%d is wanted: at %d", want, g.Vel)
			}
		}
	}
}

// landsBehind is as many steps as the chapter allows, and no more than 2^23 (more than any test needs), so that a test that fails ends.
func landsBehind(l api.Limits, g api.Gen, place int64) int64 {
	speed := size(g.Vel)
	cycles := speed / l.Dec
	if speed%l.Dec != 0 {
		cycles++
	}
	return kept(cycles+2+2*size(place-g.Pos)+walked(speed, 0, l.Dec), 0, 1<<23)
}

// tryLands asks for all that P9.3 says.
func tryLands(t *testing.T, l api.Limits, g api.Gen, place, v int64) {
	t.Helper()
	from, steps, most := g, int64(0), landsBehind(l, g, place)
	for !Landed(g, place) {
		next := Step(l, g, To(l, g, place, v))
		if steps == most || next == g {
			t.Fatalf("%+v: from %+v to %d at %d: at %+v behind %d steps of %d", l, from, place, v, g, steps, most)
		}
		g = next
		steps++
	}
	for range 3 {
		if g = Step(l, g, To(l, g, place, v)); g != (api.Gen{Pos: place}) {
			t.Fatalf("%+v: from %+v to %d at %d: gone on to %+v", l, from, place, v, g)
		}
	}
}

// P9.3
func TestLandsInSmallLimits(t *testing.T) {
	for i, l := range smallLimits() {
		for j, g := range safeGens(l) {
			if (i+j)%9 != 0 {
				continue
			}
			for place := l.Lo; place <= l.Hi; place++ {
				for _, v := range []int64{1, 3, maxSpeed} {
					tryLands(t, l, g, place, v)
				}
			}
		}
	}
}

// P9.3
func TestLandsInGreatLimits(t *testing.T) {
	for _, l := range []api.Limits{
		{Vel: maxSpeed, Acc: maxGain, Dec: maxGain, Lo: -40 * maxSpeed, Hi: 60 * maxSpeed},
		{Vel: maxSpeed, Acc: 12345, Dec: 54321, Lo: -40 * maxSpeed, Hi: 60*maxSpeed + 1},
		{Vel: maxSpeed, Acc: 54321, Dec: 12345, Lo: -60*maxSpeed - 7, Hi: 40 * maxSpeed},
		{Vel: 3000, Acc: 100, Dec: 7, Lo: -maxPlace, Hi: 2000000 - maxPlace},
		{Vel: 2999, Acc: 7, Dec: 100, Lo: maxPlace - 2000000, Hi: maxPlace},
	} {
		middle := (l.Lo + l.Hi) / 2
		for _, g := range []api.Gen{
			{Pos: l.Lo}, {Pos: l.Hi}, {Pos: middle}, {Pos: middle, Vel: 2500}, {Pos: middle, Vel: -2500}, {Pos: middle, Vel: 3500}, {Pos: middle, Vel: -3500},
			{Pos: middle, Vel: maxSpeed}, {Pos: middle, Vel: -maxSpeed}, {Pos: l.Lo, Vel: 3000}, {Pos: l.Hi, Vel: -3000},
		} {
			for _, place := range []int64{l.Lo, l.Lo + 1, middle - 1000, middle - 1, middle, middle + 1, middle + 5000, l.Hi - 1, l.Hi} {
				for _, v := range []int64{2000, maxSpeed, math.MaxInt64} {
					if isSafe(l, g) {
						tryLands(t, l, g, place, v)
					}
				}
			}
		}
	}
}

// P9.3: from end to end of all places.
func TestLandsAtTheFarEnd(t *testing.T) {
	l := api.Limits{Vel: maxSpeed, Acc: maxGain, Dec: 1000, Lo: -maxPlace, Hi: maxPlace}
	tryLands(t, l, api.Gen{Pos: -maxPlace}, maxPlace, maxSpeed)
	tryLands(t, widest(), api.Gen{Pos: maxPlace, Vel: -maxSpeed}, -maxPlace, maxSpeed)
}

// tryPath asks for the speeds, cycle by cycle, on the way to a place, of which the last ones are those that it stays at.
func tryPath(t *testing.T, l api.Limits, g api.Gen, place, v int64, speeds []int64) {
	t.Helper()
	from := g
	for i, speed := range speeds {
		if g = Step(l, g, To(l, g, place, v)); g.Vel != speed {
			t.Errorf("%+v: from %+v to %d at %d: cycle %d: %+v, not %d", l, from, place, v, i, g, speed)
			return
		}
	}
	if !Landed(g, place) {
		t.Errorf("%+v: from %+v to %d at %d: stands at %+v", l, from, place, v, g)
	}
}

// P9.1, P9.3: the chapter's example, and others about it.
func TestPaths(t *testing.T) {
	for _, c := range []struct {
		g        api.Gen
		place, v int64
		speeds   []int64
	}{
		{api.Gen{}, 20, 5, []int64{2, 4, 5, 5, 3, 1, 0, 0, 0}},
		{api.Gen{}, 20, 99, []int64{2, 4, 5, 5, 3, 1, 0, 0, 0}},
		{api.Gen{}, -20, 5, []int64{-2, -4, -5, -5, -3, -1, 0, 0, 0}},
		{api.Gen{}, 20, 3, []int64{2, 3, 3, 3, 3, 3, 3, 0, 0}},
		{api.Gen{}, 4, 1, []int64{1, 1, 1, 1, 0, 0}},
		{api.Gen{Pos: 7}, 7, 5, []int64{0, 0}},
		// It is faster than what is wanted.
		{api.Gen{Vel: 9}, 20, 3, []int64{6, 3, 3, 3, 3, 2, 0, 0}},
		// It can't stop ahead of the place, and comes back.
		{api.Gen{Pos: 19, Vel: 5}, 20, 5, []int64{2, 0, -1, 0, 0}},
		{api.Gen{Pos: 18, Vel: 5}, 20, 5, []int64{2, 0, 0}},
		{api.Gen{Pos: -19, Vel: -5}, -20, 5, []int64{-2, 0, 1, 0, 0}},
		// It is just there, and can't stop.
		{api.Gen{Pos: 20, Vel: 5}, 20, 5, []int64{2, 0, -2, 0, 0}},
		// It goes the other way at first.
		{api.Gen{Vel: -5}, 20, 5, []int64{-2, 0, 2, 4, 5, 5, 4, 2, 0, 0}},
		// Up to both ends.
		{api.Gen{Pos: 95}, 100, 5, []int64{2, 3, 0, 0}},
		{api.Gen{Pos: -95, Vel: -5}, -100, 5, []int64{-4, -1, 0, 0}},
	} {
		tryPath(t, plain(), c.g, c.place, c.v, c.speeds)
	}
}

// The limits are api's, as they are written out above.
func TestLimits(t *testing.T) {
	if maxPlace != api.MaxPos || maxSpeed != api.MaxVel || maxGain != api.MaxAcc {
		t.Error("api has other limits")
	}
}
