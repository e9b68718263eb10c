package brake

import (
	"math"
	"testing"

	"servitor/api"
)

// The chapter's limits, written out: a change of what a number counts as must not go by unseen.
const (
	maxSpeed = 1048576
	maxLoss  = 1048576
	maxWay   = 2199023255552
)

// kept is the number from lo to hi that is nearest to n.
func kept(n, lo, hi int64) int64 {
	if n < lo {
		return lo
	}
	if n > hi {
		return hi
	}
	return n
}

// walked is the way behind v, down to a speed, summed up cycle by cycle.
func walked(v, to, dec int64) int64 {
	v, to, dec = kept(v, 0, maxSpeed), kept(to, 0, maxSpeed), kept(dec, 1, maxLoss)
	sum := int64(0)
	for v -= dec; v > to; v -= dec {
		sum += v
	}
	return sum
}

// counted is how many cycles it takes till the speed is 0, counted one by one.
func counted(v, dec int64) int64 {
	v, dec = kept(v, 0, maxSpeed), kept(dec, 1, maxLoss)
	n := int64(0)
	for ; v > 0; v -= dec {
		n++
	}
	return n
}

// far are numbers above every range that the chapter names, or below all of them; some are in one by their lower half, or by their size.
func far() []int64 {
	return []int64{math.MinInt64, math.MinInt64 + 1, math.MinInt64 + 10, math.MinInt64 / 2, -1 << 42, -maxWay - 1, -maxWay, -1 << 32, 10 - 1<<32, -maxSpeed - 1, -maxSpeed, -1000, -10, -3, -2, -1, maxWay + 1, 1 << 42, 1<<42 + 10, 1 << 62, math.MaxInt64 - maxSpeed, math.MaxInt64 - 1, math.MaxInt64}
}

// aboveSpeed are numbers that no speed and no loss is, but a way.
func aboveSpeed() []int64 {
	return []int64{maxSpeed + 1, maxSpeed + 2, maxSpeed + 10, 2 * maxSpeed, 1 << 31, 1 << 32, 1<<32 + 10, 1 << 40, maxWay - 1, maxWay}
}

// losses are some of all sizes that a speed may lose in a cycle.
func losses() []int64 {
	return []int64{1, 2, 3, 4, 5, 7, 10, 31, 32, 33, 100, 255, 256, 999, 1000, 1023, 1024, 1025, 4096, 65535, 65537, 300000, maxLoss / 2, maxLoss/2 + 1, maxLoss - 1, maxLoss}
}

// multiples of what is lost, and the speeds one above and one below them, small ones and great ones.
func multiples(dec int64) []int64 {
	l := []int64{0, 1, maxSpeed - 1, maxSpeed}
	most := maxSpeed / dec
	for _, times := range []int64{1, 2, 3, 4, 10, 57, most / 2, most - 1, most} {
		for _, v := range []int64{times*dec - 1, times * dec, times*dec + 1} {
			if 0 <= v && v <= maxSpeed {
				l = append(l, v)
			}
		}
	}
	return l
}

// downs are speeds to come down to from v: those that it meets exactly, passes by one, misses by one, itself, and others about it.
func downs(v, dec int64) []int64 {
	l := []int64{0, 1, 2, v / 2, v - 2, v - 1, v, v + 1, v + dec, maxSpeed - 1, maxSpeed, v % dec, v%dec + 1}
	for _, times := range []int64{1, 2, 3, 9, v / dec / 2, v/dec - 1, v / dec} {
		met := v - times*dec
		l = append(l, met-1, met, met+1)
	}
	return l
}

func trySlow(t *testing.T, v, to, dec int64) {
	t.Helper()
	if way, want := Slow(v, to, dec), walked(v, to, dec); way != want {
		t.Errorf("Slow(%d, %d, %d): %d, not %d", v, to, dec, way, want)
	}
}

func tryWay(t *testing.T, v, dec int64) {
	t.Helper()
	if way, want := Way(v, dec), walked(v, 0, dec); way != want {
		t.Errorf("Way(%d, %d): %d, not %d", v, dec, way, want)
	}
}

func tryCycles(t *testing.T, v, dec int64) {
	t.Helper()
	if n, want := Cycles(v, dec), counted(v, dec); n != want {
		t.Errorf("Cycles(%d, %d): %d, not %d", v, dec, n, want)
	}
}

// P8.1
func TestWay(t *testing.T) {
	for _, c := range []struct{ v, dec, way int64 }{
		{10, 3, 12},
		{10, 10, 0},
		{10, 11, 0},
		{10, 9, 1},
		{10, 5, 5},
		{10, 1, 45},
		{9, 3, 9},
		{8, 3, 7},
		{0, 1, 0},
		{1, 1, 0},
		{2, 1, 1},
		{maxSpeed, 1, 549755289600},
		{maxSpeed - 1, 1, 549754241025},
		{maxSpeed, 2, 274877382656},
		{maxSpeed, maxLoss, 0},
		{maxSpeed, maxLoss - 1, 1},
		{maxSpeed, maxLoss / 2, maxSpeed / 2},
		{0, maxLoss, 0},
		{1, maxLoss, 0},
		{maxSpeed - 1, maxLoss, 0},
	} {
		if way := Way(c.v, c.dec); way != c.way {
			t.Errorf("Way(%d, %d): %d, not %d", c.v, c.dec, way, c.way)
		}
	}
}

// P8.1
func TestSlow(t *testing.T) {
	for _, c := range []struct{ v, to, dec, way int64 }{
		{10, 4, 3, 7},
		{10, 3, 3, 11},
		{10, 1, 3, 11},
		{10, 0, 3, 12},
		{10, 7, 3, 0},
		{10, 6, 3, 7},
		{10, 8, 3, 0},
		{10, 10, 3, 0},
		{10, 11, 3, 0},
		{10, 9, 1, 0},
		{10, 8, 1, 9},
		{0, 0, 1, 0},
		{0, 5, 1, 0},
		{maxSpeed, maxSpeed, 1, 0},
		{maxSpeed, maxSpeed - 1, 1, 0},
		{maxSpeed, maxSpeed - 2, 1, maxSpeed - 1},
		{maxSpeed, maxSpeed - 3, 1, 2*maxSpeed - 3},
		{maxSpeed, 1, 1, 549755289599},
		{maxSpeed, 1, maxLoss - 1, 0},
		{maxSpeed, 0, maxLoss - 1, 1},
	} {
		if way := Slow(c.v, c.to, c.dec); way != c.way {
			t.Errorf("Slow(%d, %d, %d): %d, not %d", c.v, c.to, c.dec, way, c.way)
		}
	}
}

// P8.1
func TestCycles(t *testing.T) {
	for _, c := range []struct{ v, dec, n int64 }{
		{10, 3, 4},
		{9, 3, 3},
		{8, 3, 3},
		{7, 3, 3},
		{6, 3, 2},
		{1, 3, 1},
		{0, 3, 0},
		{0, 1, 0},
		{1, 1, 1},
		{10, 1, 10},
		{10, 9, 2},
		{10, 10, 1},
		{10, 11, 1},
		{maxSpeed, 1, maxSpeed},
		{maxSpeed, 2, maxSpeed / 2},
		{maxSpeed - 1, 2, maxSpeed / 2},
		{maxSpeed, maxLoss, 1},
		{maxSpeed, maxLoss - 1, 2},
		{maxSpeed - 1, maxLoss, 1},
		{0, maxLoss, 0},
		{1, maxLoss, 1},
	} {
		if n := Cycles(c.v, c.dec); n != c.n {
			t.Errorf("Cycles(%d, %d): %d, not %d", c.v, c.dec, n, c.n)
		}
	}
}

// P8.1
func TestSmallSpeedsCycleByCycle(t *testing.T) {
	for v := int64(0); v <= 60; v++ {
		for dec := int64(1); dec <= 63; dec++ {
			tryWay(t, v, dec)
			tryCycles(t, v, dec)
			for to := int64(0); to <= 63; to++ {
				trySlow(t, v, to, dec)
			}
		}
	}
}

// P8.1
func TestMultiplesCycleByCycle(t *testing.T) {
	for _, dec := range losses() {
		for _, v := range multiples(dec) {
			tryWay(t, v, dec)
			tryCycles(t, v, dec)
			for _, to := range downs(v, dec) {
				trySlow(t, v, to, dec)
			}
		}
	}
}

// P8.1
func TestSpeedsBeyond(t *testing.T) {
	for _, v := range append(far(), aboveSpeed()...) {
		for _, dec := range []int64{1, 7, 1000, maxLoss - 1, maxLoss} {
			tryWay(t, v, dec)
			tryCycles(t, v, dec)
			for _, to := range []int64{0, 1, 10, 1000, maxSpeed - 1001, maxSpeed - 1, maxSpeed, v} {
				trySlow(t, v, to, dec)
			}
		}
	}
}

// P8.1
func TestSpeedsToComeDownToBeyond(t *testing.T) {
	for _, to := range append(far(), aboveSpeed()...) {
		for _, v := range []int64{0, 1, 10, 3000, maxSpeed - 1, maxSpeed} {
			for _, dec := range []int64{1, 3, 10, 1000, maxLoss} {
				trySlow(t, v, to, dec)
			}
		}
	}
}

// P8.1
func TestLossesBeyond(t *testing.T) {
	for _, dec := range append(far(), 0, maxLoss+1, maxLoss+2, 2*maxLoss, 1<<32+3) {
		for _, v := range []int64{0, 1, 2, 10, 1000, maxSpeed - 1, maxSpeed, math.MinInt64, math.MaxInt64} {
			tryWay(t, v, dec)
			tryCycles(t, v, dec)
			for _, to := range []int64{0, 1, 5, maxSpeed - 2, maxSpeed, math.MinInt64, math.MaxInt64} {
				trySlow(t, v, to, dec)
			}
		}
	}
}

// P8.2
func TestReach(t *testing.T) {
	for _, c := range []struct{ dist, dec, v int64 }{
		{22, 3, 10},
		{21, 3, 9},
		{25, 3, 10},
		{26, 3, 11},
		{0, 1, 0},
		{0, 3, 0},
		{0, maxLoss, 0},
		{1, 1, 1},
		{2, 1, 1},
		{3, 1, 2},
		{5, 1, 2},
		{6, 1, 3},
		{1, maxLoss, 1},
		{5, 5, 5},
		{6, 5, 5},
		{7, 5, 6},
		{549756338176, 1, maxSpeed},
		{549756338175, 1, maxSpeed - 1},
		{549755289600, 1, maxSpeed - 1},
		{549755289599, 1, maxSpeed - 2},
		{maxSpeed, maxLoss, maxSpeed},
		{maxSpeed - 1, maxLoss, maxSpeed - 1},
		{maxSpeed + 1, maxLoss, maxSpeed},
		{maxSpeed, maxLoss - 1, maxSpeed - 1},
		{maxSpeed + 1, maxLoss - 1, maxSpeed},
		{maxWay, 1, maxSpeed},
		{maxWay, maxLoss, maxSpeed},
		{maxWay - 1, 1, maxSpeed},
	} {
		if v := Reach(c.dist, c.dec); v != c.v {
			t.Errorf("Reach(%d, %d): %d, not %d", c.dist, c.dec, v, c.v)
		}
	}
}

// P8.2
func TestPass(t *testing.T) {
	for _, c := range []struct{ dist, to, dec, v int64 }{
		{16, 4, 3, 9},
		{17, 4, 3, 10},
		{15, 4, 3, 9},
		{14, 4, 3, 8},
		{0, 5, 1, 5},
		{5, 5, 1, 5},
		{6, 5, 1, 6},
		{12, 5, 1, 6},
		{13, 5, 1, 7},
		{3, 5, 1, 5},
		{0, 0, 1, 0},
		{22, 0, 3, 10},
		{21, 0, 3, 9},
		{0, maxSpeed, 1, maxSpeed},
		{0, maxSpeed - 1, 1, maxSpeed - 1},
		{maxSpeed - 1, maxSpeed - 1, 1, maxSpeed - 1},
		{maxSpeed, maxSpeed - 1, 1, maxSpeed},
		{maxSpeed, maxSpeed - 2, 1, maxSpeed - 1},
		{2*maxSpeed - 2, maxSpeed - 2, 1, maxSpeed - 1},
		{2*maxSpeed - 1, maxSpeed - 2, 1, maxSpeed},
		{maxWay, 0, 1, maxSpeed},
		{maxWay, maxSpeed, maxLoss, maxSpeed},
	} {
		if v := Pass(c.dist, c.to, c.dec); v != c.v {
			t.Errorf("Pass(%d, %d, %d): %d, not %d", c.dist, c.to, c.dec, v, c.v)
		}
	}
}

// mayPass: does P8.2 let a speed go, of a way, a speed to come down to and what is lost in a cycle?
func mayPass(v, dist, to, dec int64) bool {
	return v <= kept(to, 0, maxSpeed) || v+walked(v, to, dec) <= kept(dist, 0, maxWay)
}

// tryPass asks for a speed that may go, while the next one may not, or is none.
func tryPass(t *testing.T, dist, to, dec int64) {
	t.Helper()
	v := Pass(dist, to, dec)
	if v < 0 || v > maxSpeed {
		t.Errorf("Pass(%d, %d, %d): %d is no speed", dist, to, dec, v)
		return
	}
	if !mayPass(v, dist, to, dec) {
		t.Errorf("Pass(%d, %d, %d): %d goes too far", dist, to, dec, v)
	}
	if v < maxSpeed && mayPass(v+1, dist, to, dec) {
		t.Errorf("Pass(%d, %d, %d): %d, but %d may go", dist, to, dec, v, v+1)
	}
}

// tryReach asks for a speed that goes no farther than the way, while the next one goes farther, or is none.
func tryReach(t *testing.T, dist, dec int64) {
	t.Helper()
	v := Reach(dist, dec)
	if v < 0 || v > maxSpeed {
		t.Errorf("Reach(%d, %d): %d is no speed", dist, dec, v)
		return
	}
	if within := kept(dist, 0, maxWay); v+walked(v, 0, dec) > within {
		t.Errorf("Reach(%d, %d): %d goes too far", dist, dec, v)
	} else if v < maxSpeed && v+1+walked(v+1, 0, dec) <= within {
		t.Errorf("Reach(%d, %d): %d, but %d goes no farther", dist, dec, v, v+1)
	}
}

// P8.2
func TestSmallWays(t *testing.T) {
	for dist := int64(0); dist <= 300; dist++ {
		for dec := int64(1); dec <= 24; dec++ {
			tryReach(t, dist, dec)
			for to := int64(0); to <= 26; to++ {
				tryPass(t, dist, to, dec)
			}
		}
	}
}

// tryReachAbout asks at what a speed needs, and just below and just above that.
func tryReachAbout(t *testing.T, v, dec int64) {
	t.Helper()
	need := v + walked(v, 0, dec)
	if got := Reach(need, dec); got != v {
		t.Errorf("Reach(%d, %d): %d, not %d", need, dec, got, v)
	}
	if got := Reach(need-1, dec); v > 0 && got != v-1 {
		t.Errorf("Reach(%d, %d): %d, not %d", need-1, dec, got, v-1)
	}
	tryReach(t, need-1, dec)
	tryReach(t, need, dec)
	tryReach(t, need+1, dec)
}

// tryPassAbout asks at what a speed needs that is above the one to come down to, and just below and just above that.
func tryPassAbout(t *testing.T, v, to, dec int64) {
	t.Helper()
	need := v + walked(v, to, dec)
	if got := Pass(need, to, dec); got != v {
		t.Errorf("Pass(%d, %d, %d): %d, not %d", need, to, dec, got, v)
	}
	if got := Pass(need-1, to, dec); got != v-1 {
		t.Errorf("Pass(%d, %d, %d): %d, not %d", need-1, to, dec, got, v-1)
	}
	tryPass(t, need-1, to, dec)
	tryPass(t, need, to, dec)
	tryPass(t, need+1, to, dec)
}

// P8.2
func TestWaysAboutWhatASpeedNeeds(t *testing.T) {
	for _, dec := range losses() {
		for _, v := range multiples(dec) {
			tryReachAbout(t, v, dec)
			for _, to := range downs(v, dec) {
				if 0 <= to && to < v {
					tryPassAbout(t, v, to, dec)
				}
			}
		}
	}
}

// P8.2: a speed to come down to that is already more than the way allows.
func TestPassTooFastAlready(t *testing.T) {
	for _, to := range []int64{1, 2, 5, 10, 1000, maxSpeed - 1, maxSpeed} {
		for _, dec := range losses() {
			for _, dist := range []int64{math.MinInt64, -1, 0, 1, to / 2, to - 1, to} {
				if v := Pass(dist, to, dec); v != to {
					t.Errorf("Pass(%d, %d, %d): %d, not %d", dist, to, dec, v, to)
				}
			}
		}
	}
}

// P8.2
func TestEndsOfWays(t *testing.T) {
	for _, dec := range losses() {
		tryReach(t, 0, dec)
		tryReach(t, maxWay-1, dec)
		tryReach(t, maxWay, dec)
		for _, to := range []int64{0, 1, 10, maxSpeed - 1, maxSpeed} {
			tryPass(t, 0, to, dec)
			tryPass(t, maxWay-1, to, dec)
			tryPass(t, maxWay, to, dec)
		}
	}
}

// P8.2: beyond both ends of a way.
func TestWaysBeyond(t *testing.T) {
	for _, dist := range append(far(), aboveSpeed()...) {
		for _, dec := range []int64{1, 2, 3, 1000, maxLoss - 1, maxLoss} {
			tryReach(t, dist, dec)
			if v := Reach(dist, dec); dist < 0 && v != 0 {
				t.Errorf("Reach(%d, %d): %d, not 0", dist, dec, v)
			} else if dist >= maxWay && v != maxSpeed {
				t.Errorf("Reach(%d, %d): %d, not %d", dist, dec, v, int64(maxSpeed))
			}
			for _, to := range []int64{0, 1, 10, maxSpeed - 1, maxSpeed, math.MinInt64, math.MaxInt64} {
				tryPass(t, dist, to, dec)
				if v := Pass(dist, to, dec); dist < 0 && v != kept(to, 0, maxSpeed) {
					t.Errorf("Pass(%d, %d, %d): %d", dist, to, dec, v)
				}
			}
		}
	}
}

// P8.2: losses and speeds to come down to that are none.
func TestReachAndPassOfOthersBeyond(t *testing.T) {
	ways := []int64{0, 1, 2, 22, 1000, maxSpeed, 549756338175, 549756338176, maxWay, math.MinInt64, math.MaxInt64}
	for _, dist := range ways {
		for _, dec := range append(far(), 0, maxLoss+1, 2*maxLoss, 1<<32+3) {
			tryReach(t, dist, dec)
			tryPass(t, dist, 5, dec)
			tryPass(t, dist, maxSpeed, dec)
		}
		for _, to := range append(far(), aboveSpeed()...) {
			tryPass(t, dist, to, 3)
			tryPass(t, dist, to, 1000)
			if v := Pass(dist, to, 3); to < 0 && v != Reach(dist, 3) {
				t.Errorf("Pass(%d, %d, 3): %d, not %d", dist, to, v, Reach(dist, 3))
			} else if to > maxSpeed && v != maxSpeed {
				t.Errorf("Pass(%d, %d, 3): %d, not %d", dist, to, v, int64(maxSpeed))
			}
		}
	}
}

// tryStop goes at v for a cycle, and then loses dec each cycle: it stays within Reach of what is left, and stands behind as many cycles as Cycles tells.
func tryStop(t *testing.T, v, dist, dec int64) {
	t.Helper()
	first, left, n := v, dist, int64(0)
	for v > 0 {
		left -= v
		if left < 0 {
			t.Errorf("from %d, of %d, by %d: %d too far", first, dist, dec, -left)
			return
		}
		v = max(v-dec, 0)
		if most := Reach(left, dec); v > most {
			t.Errorf("from %d, of %d, by %d: at %d, but Reach of what is left is %d", first, dist, dec, v, most)
			return
		}
		n++
	}
	if n != Cycles(first, dec) {
		t.Errorf("from %d, of %d, by %d: stands behind %d cycles, not %d", first, dist, dec, n, Cycles(first, dec))
	}
}

// ways are some of all sizes, and for some speeds what these need, one less and one more.
func ways(dec int64) []int64 {
	l := []int64{0, 1, 2, 3, 10, 99, 100, 1000, 12345, maxSpeed, 1 << 32, maxWay / 2, maxWay - 1, maxWay}
	for _, v := range multiples(dec) {
		need := v + walked(v, 0, dec)
		l = append(l, max(need-1, 0), need, need+1)
	}
	return l
}

// P8.3
func TestStopsFromReach(t *testing.T) {
	for dist := int64(0); dist <= 500; dist++ {
		for dec := int64(1); dec <= 40; dec++ {
			tryStop(t, Reach(dist, dec), dist, dec)
		}
	}
	for _, dec := range losses()[8:] {
		for _, dist := range ways(dec) {
			tryStop(t, Reach(dist, dec), dist, dec)
		}
	}
}

// P8.3: who loses as little as may be from as fast as may be.
func TestStopsFromTheGreatestSpeed(t *testing.T) {
	for _, dec := range []int64{1, 2, 3} {
		need := maxSpeed + walked(maxSpeed, 0, dec)
		tryStop(t, Reach(need, dec), need, dec)
		tryStop(t, Reach(need-1, dec), need-1, dec)
	}
	tryStop(t, Reach(maxWay, 1), maxWay, 1)
}

// P8.3: who goes slower than Reach allows.
func TestStopsFromBelowReach(t *testing.T) {
	for dist := int64(0); dist <= 120; dist++ {
		for dec := int64(1); dec <= 20; dec++ {
			for v := int64(0); v <= Reach(dist, dec); v++ {
				tryStop(t, v, dist, dec)
			}
		}
	}
}

// tryFastest goes as fast as Reach of what is left allows, cycle by cycle: it never has to lose more than dec for that, may stop at any cycle, and comes just to the way.
func tryFastest(t *testing.T, dist, dec int64) {
	t.Helper()
	left, v := dist, Reach(dist, dec)
	for v > 0 {
		tryStop(t, v, left, dec)
		left -= v
		next := Reach(left, dec)
		if left < 0 || next < v-dec {
			t.Errorf("of %d, by %d: %d left, from %d to %d", dist, dec, left, v, next)
			return
		}
		v = next
	}
	if left != 0 {
		t.Errorf("of %d, by %d: stands %d too early", dist, dec, left)
	}
}

// P8.3
func TestAsFastAsReachAllows(t *testing.T) {
	for dist := int64(0); dist <= 300; dist++ {
		for dec := int64(1); dec <= 25; dec++ {
			tryFastest(t, dist, dec)
		}
	}
	for _, dec := range []int64{1000, 1023, 4096, 65537, maxLoss / 2, maxLoss - 1, maxLoss} {
		for _, dist := range []int64{0, 1, 99, 12345, maxSpeed - 1, maxSpeed, maxSpeed + 1, 100*maxSpeed + 7} {
			tryFastest(t, dist, dec)
		}
	}
}

// The limits are api's, as they are written out above.
func TestLimits(t *testing.T) {
	if maxSpeed != api.MaxVel || maxLoss != api.MaxAcc || maxWay != 2*api.MaxPos {
		t.Error("api has other limits")
	}
}
