package gear

import (
	"math"
	"math/big"
	"testing"

	"servitor/api"
	"servitor/gen"
)

const (
	least = math.MinInt64
	great = math.MaxInt64
)

// The limits of layer 9 that the tests below lean on, written out.
const (
	maxPlace = 1099511627776
	maxSpeed = 1048576
	maxGain  = 1048576
)

// ratio is a master's place, with all by which another axis follows it.
type ratio struct{ start, from, master, num, den int64 }

// place where Place says that it should be.
func (r ratio) place() (int64, bool) { return Place(r.start, r.from, r.master, r.num, r.den) }

// want is what Want says.
func (r ratio) want(l api.Limits, g api.Gen) (int64, bool) {
	return Want(l, g, r.start, r.from, r.master, r.num, r.den)
}

// room: the number that n is; 0 and false: it has no room.
func room(n *big.Int) (int64, bool) {
	if !n.IsInt64() {
		return 0, false
	}
	return n.Int64(), true
}

// exact is where it should be, by numbers of any size; false: nowhere.
func exact(r ratio) (int64, bool) {
	if r.den < 1 {
		return 0, false
	}
	n := new(big.Int).Sub(big.NewInt(r.master), big.NewInt(r.from))
	if !n.IsInt64() {
		return 0, false
	}
	// Div of package big leaves a rest from 0 on: by a number above 0 it rounds down.
	n.Div(n.Mul(n, big.NewInt(r.num)), big.NewInt(r.den))
	if !n.IsInt64() {
		return 0, false
	}
	return room(n.Add(n, big.NewInt(r.start)))
}

// exactWay is the way from a place to where it should be, by numbers of any size; false: there is none, or it has no room.
func exactWay(r ratio, pos int64) (int64, bool) {
	place, ok := exact(r)
	if !ok {
		return 0, false
	}
	return room(new(big.Int).Sub(big.NewInt(place), big.NewInt(pos)))
}

// at is a ratio by which the axis should be at a place.
func at(place int64) ratio { return ratio{place, 0, 0, 1, 1} }

// mixed is the next number of a row that a rule mixes.
func mixed(n uint64) uint64 { return n*6364136223846793005 + 1442695040888963407 }

// draw is a row of numbers of all sizes and both signs, by a rule that mixes them.
type draw struct{ n uint64 }

// bits are 32 bits of the row's next number.
func (d *draw) bits() uint64 {
	d.n = mixed(d.n)
	return d.n >> 32
}

// below is a number from 0 on, below a bound.
func (d *draw) below(bound int64) int64 { return int64(d.bits()) % bound }

// number of any size.
func (d *draw) number() int64 { return int64(d.bits()<<32|d.bits()) >> d.below(64) }

// P14.1: the chapter's example, and others about it.
func TestPlace(t *testing.T) {
	for _, c := range []struct {
		r     ratio
		place int64
	}{
		{ratio{100, 0, 7, 1, 2}, 103},
		{ratio{100, 0, -7, 1, 2}, 96},
		{ratio{100, 7, 0, 1, 2}, 96},
		{ratio{100, -7, 0, 1, 2}, 103},
		{ratio{100, 0, 7, -1, 2}, 96},
		{ratio{100, 0, -7, -1, 2}, 103},
		{ratio{100, 0, 8, 1, 2}, 104},
		{ratio{100, 0, -8, 1, 2}, 96},
		{ratio{-100, 0, 7, 1, 2}, -97},
		{ratio{-100, 0, -7, 1, 2}, -104},
		// Only the way from where it began counts, not the master's place.
		{ratio{0, 1000, 1007, 1, 2}, 3},
		{ratio{0, -1000, -1007, 1, 2}, -4},
		{ratio{5, 40, 40, 9, 7}, 5},
		{ratio{0, 10, 20, -3, 1}, -30},
		{ratio{0, 10, 20, 3, 1}, 30},
		{ratio{1, 10, 20, 0, 1}, 1},
		{ratio{1, 10, 20, 0, great}, 1},
		// The product is rounded, not the ratio: 3 / 2 by 5 is 7, not 5, and 2 / 3 by 5 is 3, not 0.
		{ratio{0, 0, 5, 3, 2}, 7},
		{ratio{0, 0, 5, 2, 3}, 3},
		{ratio{0, 0, -5, 3, 2}, -8},
		{ratio{0, 0, -5, 2, 3}, -4},
		// It is rounded ahead of the sum, and downwards whatever start is.
		{ratio{-3, 0, 1, 1, 3}, -3},
		{ratio{-3, 0, -1, 1, 3}, -4},
		{ratio{3, 0, 2, 1, 3}, 3},
		{ratio{3, 0, -2, 1, 3}, 2},
		{ratio{0, 0, 1, 1, great}, 0},
		{ratio{0, 0, -1, 1, great}, -1},
		{ratio{0, 0, great, 1, great}, 1},
		{ratio{0, 0, great - 1, 1, great}, 0},
		{ratio{0, 0, least, 1, great}, -2},
		{ratio{0, 0, least + 1, 1, great}, -1},
		// The ratio isn't made shorter, and needs no room of its own.
		{ratio{0, 0, 6, 4, 8}, 3},
		{ratio{0, 0, 1 << 40, 1 << 40, 1 << 41}, 1 << 39},
	} {
		if place, ok := c.r.place(); place != c.place || !ok {
			t.Errorf("Place of %+v: %d %v, not %d", c.r, place, ok, c.place)
		}
	}
}

// Twice 6148914691236517205 and that number are 2^64 - 1; 274177 by 67280421310721 is 2^64 + 1.
const (
	third  = 6148914691236517205
	few    = 274177
	others = 67280421310721
)

// P14.1: each of the three steps, upwards and downwards.
func TestJustEnoughRoom(t *testing.T) {
	for _, c := range []struct {
		r     ratio
		place int64
	}{
		// The difference.
		{ratio{0, -1, great - 1, 1, 1}, great},
		{ratio{0, least + 1, 0, 1, 1}, great},
		{ratio{0, least, -1, 1, 1}, great},
		{ratio{0, 1, least + 1, 1, 1}, least},
		{ratio{0, great, -1, 1, 1}, least},
		{ratio{0, great, great, 1, 1}, 0},
		{ratio{0, least, least, 1, 1}, 0},
		{ratio{0, 0, least, 1, 1}, least},
		{ratio{0, 0, great, 1, 1}, great},
		{ratio{0, 0, great, -1, 1}, -great},
		{ratio{0, -1 << 62, 1<<62 - 1, 1, 1}, great},
		{ratio{0, 1 << 62, -1 << 62, 1, 1}, least},
		// The product by num / den.
		{ratio{0, 0, 1, great, 1}, great},
		{ratio{0, 0, 1, least, 1}, least},
		{ratio{0, 0, -1, great, 1}, -great},
		{ratio{0, 0, -1, least + 1, 1}, great},
		{ratio{0, 0, 1 << 62, -2, 1}, least},
		{ratio{0, 0, -1 << 62, 2, 1}, least},
		{ratio{0, 0, 1<<62 - 1, 2, 1}, great - 1},
		{ratio{0, 0, great, great, great}, great},
		{ratio{0, 0, least, great, great}, least},
		{ratio{0, 0, great, least, great}, least},
		{ratio{0, 0, least, -1, 2}, 1 << 62},
		{ratio{0, 0, least, least + 2, great}, great - 1},
		{ratio{0, 0, 3, third, 2}, great},
		{ratio{0, 0, -3, third, 2}, least},
		{ratio{0, 0, 3, -third, 2}, least},
		{ratio{0, 0, -3, -third, 2}, great},
		{ratio{0, 0, 1 << 32, -1 << 32, 2}, least},
		// The sum.
		{ratio{great - 3, 0, 7, 1, 2}, great},
		{ratio{least + 4, 0, -7, 1, 2}, least},
		{ratio{great, 0, 0, 1, 1}, great},
		{ratio{least, 0, 0, 1, 1}, least},
		{ratio{great, 0, 1, 1, 2}, great},
		{ratio{great, 0, least, 1, 1}, -1},
		{ratio{least, 0, great, 1, 1}, -1},
		{ratio{1 << 62, 0, 1<<62 - 1, 1, 1}, great},
		{ratio{-1 << 62, 0, 1 << 62, -1, 1}, least},
	} {
		if place, ok := c.r.place(); place != c.place || !ok {
			t.Errorf("Place of %+v: %d %v, not %d", c.r, place, ok, c.place)
		}
	}
}

// nowhere are ratios of which one of the three steps has no room.
func nowhere() []ratio {
	return []ratio{
		// The difference.
		{0, -1, great, 1, 1},
		{0, least, 0, 1, 1},
		{0, least + 1, 1, 1, 1},
		{0, 1, least, 1, 1},
		{0, great, -2, 1, 1},
		{0, least, great, 1, 1},
		{0, great, least, 1, 1},
		{0, -1 << 62, 1 << 62, 1, 1},
		{0, 1<<62 + 1, -1 << 62, 1, 1},
		// What follows would have room again.
		{0, -1, great, 1, 2},
		{0, -1, great, 0, 1},
		{0, great, least, 0, 1},
		{0, least, great, 1, great},
		{least, least, 0, 1, 1},
		// The product by num / den.
		{0, 0, 2, great, 1},
		{0, 0, -1, least, 1},
		{0, 0, least, -1, 1},
		{0, 0, least, least, 1},
		{0, 0, least, least, great},
		{0, 0, 1 << 62, 2, 1},
		{0, 0, -1 << 62, -2, 1},
		{0, 0, -1<<62 - 1, 2, 1},
		{0, 0, great, great, great - 1},
		{0, 0, least, great, great - 1},
		{0, 0, 3, third + 1, 2},
		{0, 0, -3, third + 1, 2},
		{0, 0, few, others, 2},
		{0, 0, -few, others, 2},
		{0, 0, few, -others, 2},
		{0, 0, 1 << 32, 1 << 32, 2},
		{0, 0, 1 << 32, 1 << 32, 1},
		{0, 0, 1 << 40, 1 << 40, 1},
		// The sum would have room again.
		{-1 << 62, 0, 1 << 62, 2, 1},
		{least, 0, least, -1, 1},
		{1 << 62, 0, -1<<62 - 1, 2, 1},
		// The sum.
		{great - 2, 0, 7, 1, 2},
		{least + 3, 0, -7, 1, 2},
		{great, 0, 1, 1, 1},
		{great, 0, 2, 1, 2},
		{least, 0, -1, 1, 1},
		{least, 0, -1, 1, 2},
		{least, 0, -1, 1, great},
		{great, 0, great, 1, 1},
		{least, 0, least, 1, 1},
		{1 << 62, 0, 1 << 62, 1, 1},
		{-1 << 62, 0, 1<<62 + 1, -1, 1},
	}
}

// P14.1, and rule 2: beside false stands 0.
func TestNoRoom(t *testing.T) {
	for _, r := range nowhere() {
		if place, ok := r.place(); place != 0 || ok {
			t.Errorf("Place of %+v: %d %v", r, place, ok)
		}
	}
}

// wrongDens are below 1; some of them are above 0 by their lower half.
func wrongDens() []int64 { return []int64{0, -1, -2, 1 - 1<<32, 1 - 1<<62, least + 1, least} }

// P14.1: whatever the rest is.
func TestDenBelowOne(t *testing.T) {
	for _, den := range wrongDens() {
		for _, r := range []ratio{
			{100, 0, 7, 1, den},
			{100, 0, 7, -1, den},
			{100, 0, 0, 1, den},
			{100, 0, 7, 0, den},
			{0, 0, 0, 0, den},
			{0, 0, den, 1, den},
			{0, 0, 1, den, den},
			{great, 0, 1, 1, den},
			{0, least, great, least, den},
		} {
			if place, ok := r.place(); place != 0 || ok {
				t.Errorf("Place of %+v: %d %v", r, place, ok)
			}
		}
	}
}

// tryPlace holds Place against numbers of any size.
func tryPlace(t *testing.T, r ratio) {
	t.Helper()
	want, has := exact(r)
	if place, ok := r.place(); place != want || ok != has {
		t.Errorf("Place of %+v: %d %v, not %d %v", r, place, ok, want, has)
	}
}

// P14.1: all ratios of some edge numbers.
func TestPlaceOfEdges(t *testing.T) {
	edges := []int64{least, least + 1, -1 << 62, -7, -1, 0, 1, 2, 7, 1 << 62, great - 1, great}
	for _, start := range edges {
		for _, from := range edges {
			for _, master := range edges {
				for _, num := range edges {
					for _, den := range edges {
						tryPlace(t, ratio{start, from, master, num, den})
					}
				}
			}
		}
	}
}

// P14.1: all small ratios.
func TestSmallPlace(t *testing.T) {
	for _, start := range []int64{-2, 0, 3} {
		for _, from := range []int64{-5, 0, 1} {
			for master := int64(-13); master <= 13; master++ {
				for num := int64(-6); num <= 6; num++ {
					for den := int64(-2); den <= 7; den++ {
						tryPlace(t, ratio{start, from, master, num, den})
					}
				}
			}
		}
	}
}

// P14.1: numbers of all sizes.
func TestPlaceOfDrawn(t *testing.T) {
	d, has := draw{14}, 0
	const rows = 200000
	for range rows {
		r := ratio{d.number(), d.number(), d.number(), d.number(), d.number()}
		tryPlace(t, r)
		if _, ok := exact(r); ok {
			has++
		}
	}
	if has < rows/10 || has > rows/10*9 {
		t.Errorf("%d of %d have a place: this tries too little", has, rows)
	}
}

// P14.1: start is drawn so that the sum is about one of both ends of a number.
func TestPlaceAboutTheEnds(t *testing.T) {
	d, tried := draw{141}, 0
	for range 50000 {
		r := ratio{0, d.number(), d.number(), d.number(), d.number()}
		own, ok := exact(r)
		if !ok {
			continue
		}
		end := big.NewInt(great)
		if own < 0 {
			end = big.NewInt(least)
		}
		edge := end.Sub(end, big.NewInt(own)).Int64()
		for by := int64(-1); by <= 1; by++ {
			r.start = edge + by
			tryPlace(t, r)
		}
		tried++
	}
	if tried < 5000 {
		t.Errorf("%d were tried: too few", tried)
	}
}

// P14.1: num is drawn so that the product by num / den is about one of both ends of a number.
func TestPlaceAboutTheProductsEnds(t *testing.T) {
	d, has, hasNot := draw{142}, 0, 0
	for range 50000 {
		r := ratio{0, 0, d.number(), 0, d.number()}
		if r.master == 0 || r.den < 1 {
			continue
		}
		for _, end := range []int64{least, great} {
			n := new(big.Int).Mul(big.NewInt(end), big.NewInt(r.den))
			if n.Quo(n, big.NewInt(r.master)); !n.IsInt64() {
				continue
			}
			for by := int64(-1); by <= 1; by++ {
				r.num = n.Int64() + by
				tryPlace(t, r)
				if _, ok := exact(r); ok {
					has++
				} else {
					hasNot++
				}
			}
		}
	}
	if has < 5000 || hasNot < 5000 {
		t.Errorf("%d have a place, %d have none: too few", has, hasNot)
	}
}

// plain are limits by which a generator at rest may have speeds from -2 to 2.
func plain() api.Limits { return api.Limits{Vel: 5, Acc: 2, Dec: 3, Lo: -100, Hi: 100} }

// widest are right limits with everything as great as may be.
func widest() api.Limits {
	return api.Limits{Vel: maxSpeed, Acc: maxGain, Dec: maxGain, Lo: -maxPlace, Hi: maxPlace}
}

// tryWant asks for a speed, and whether it may be had.
func tryWant(t *testing.T, l api.Limits, g api.Gen, r ratio, speed int64, may bool) {
	t.Helper()
	if v, ok := r.want(l, g); v != speed || ok != may {
		t.Errorf("Want(%+v, %+v) of %+v: %d %v, not %d %v", l, g, r, v, ok, speed, may)
	}
}

// speeds are the least and the greatest one that a generator may have.
type speeds struct {
	l           api.Limits
	g           api.Gen
	least, most int64
}

// P14.2: the least and the greatest speed that it may just have, and one beyond each.
func TestWant(t *testing.T) {
	slow := api.Limits{Vel: maxSpeed, Acc: 1, Dec: 1, Lo: -maxPlace, Hi: maxPlace}
	quick := api.Limits{Vel: 5, Acc: 9, Dec: 20, Lo: -100, Hi: 100}
	for _, c := range []speeds{
		// Standing: Acc, Vel, and the way to the end are what bounds it.
		{plain(), api.Gen{}, -2, 2},
		{plain(), api.Gen{Pos: 50}, -2, 2},
		{plain(), api.Gen{Pos: -50}, -2, 2},
		{plain(), api.Gen{Pos: 99}, -2, 1},
		{plain(), api.Gen{Pos: 100}, -2, 0},
		{plain(), api.Gen{Pos: -99}, -1, 2},
		{plain(), api.Gen{Pos: -100}, 0, 2},
		{quick, api.Gen{}, -5, 5},
		{quick, api.Gen{Pos: 96}, -5, 4},
		{quick, api.Gen{Pos: -96}, -4, 5},
		// Under way, upwards.
		{plain(), api.Gen{Vel: 1}, 0, 3},
		{plain(), api.Gen{Vel: 2}, 0, 4},
		{plain(), api.Gen{Vel: 3}, 0, 5},
		{plain(), api.Gen{Vel: 4}, 1, 5},
		{plain(), api.Gen{Pos: 7, Vel: 5}, 2, 5},
		{plain(), api.Gen{Vel: 14}, 11, 11},
		{plain(), api.Gen{Pos: 95, Vel: 5}, 2, 4},
		{plain(), api.Gen{Pos: 98, Vel: 5}, 2, 2},
		{plain(), api.Gen{Pos: 100, Vel: 3}, 0, 0},
		{quick, api.Gen{Vel: 5}, 0, 5},
		// Downwards.
		{plain(), api.Gen{Vel: -1}, -3, 0},
		{plain(), api.Gen{Vel: -4}, -5, -1},
		{plain(), api.Gen{Pos: -7, Vel: -5}, -5, -2},
		{plain(), api.Gen{Vel: -14}, -11, -11},
		{plain(), api.Gen{Pos: -95, Vel: -5}, -4, -2},
		{plain(), api.Gen{Pos: -100, Vel: -3}, 0, 0},
		// The widest limits, and the fastest.
		{widest(), api.Gen{}, -maxSpeed, maxSpeed},
		{widest(), api.Gen{Vel: maxSpeed}, 0, maxSpeed},
		{widest(), api.Gen{Vel: -maxSpeed}, -maxSpeed, 0},
		{widest(), api.Gen{Pos: maxPlace}, -maxSpeed, 0},
		{widest(), api.Gen{Pos: -maxPlace}, 0, maxSpeed},
		{slow, api.Gen{Vel: maxSpeed}, maxSpeed - 1, maxSpeed},
		{slow, api.Gen{Vel: 7}, 6, 8},
	} {
		for v := c.least - 3; v <= c.most+3; v++ {
			if v == c.least+2 && c.most-c.least > 100 {
				v = c.most - 2
			}
			tryWant(t, c.l, c.g, at(c.g.Pos+v), v, c.least <= v && v <= c.most)
		}
	}
}

// P14.2: the place reckoned by each part of the ratio.
func TestWantByARatio(t *testing.T) {
	for _, c := range []struct {
		g     api.Gen
		r     ratio
		speed int64
		may   bool
	}{
		{api.Gen{}, ratio{0, 0, 5, 1, 2}, 2, true},
		{api.Gen{}, ratio{0, 0, 6, 1, 2}, 3, false},
		{api.Gen{}, ratio{0, 0, -4, 1, 2}, -2, true},
		{api.Gen{}, ratio{0, 0, -5, 1, 2}, -3, false},
		{api.Gen{Pos: 40}, ratio{41, 7, 7, 3, 5}, 1, true},
		{api.Gen{Pos: 40}, ratio{41, 7, 8, 3, 5}, 1, true},
		{api.Gen{Pos: 40}, ratio{41, 7, 9, 3, 5}, 2, true},
		{api.Gen{Pos: 40}, ratio{41, 7, 11, 3, 5}, 3, false},
		{api.Gen{Pos: 40}, ratio{41, 7, 6, 3, 5}, 0, true},
		{api.Gen{Pos: 40}, ratio{41, 7, 2, 3, 5}, -2, true},
		{api.Gen{Pos: 40}, ratio{41, 7, 1, 3, 5}, -3, false},
		{api.Gen{Pos: -30, Vel: 4}, ratio{-30, 1000, 1000, 1, 1}, 0, false},
		{api.Gen{Pos: -30, Vel: 4}, ratio{-30, 1000, 1001, 1, 1}, 1, true},
		{api.Gen{Pos: -30, Vel: 4}, ratio{-30, 1000, 999, -5, 1}, 5, true},
		{api.Gen{Pos: -30, Vel: 4}, ratio{-30, 1000, 999, -6, 1}, 6, false},
		{api.Gen{Pos: -30, Vel: 4}, ratio{-30, 1000, 999, 1, 1}, -1, false},
		// A speed far from all that it may have is told in full.
		{api.Gen{}, ratio{0, 0, 1 << 32, 1, 1}, 1 << 32, false},
		{api.Gen{}, ratio{1, 0, 1 << 32, 1, 1}, 1<<32 + 1, false},
		{api.Gen{}, ratio{0, 0, 1 << 62, 1, 1}, 1 << 62, false},
		{api.Gen{}, at(great), great, false},
		{api.Gen{}, at(least), least, false},
		{api.Gen{}, at(-1 << 32), -1 << 32, false},
		{api.Gen{Pos: 100}, at(-100), -200, false},
		{api.Gen{Pos: -100}, at(100), 200, false},
	} {
		tryWant(t, plain(), c.g, c.r, c.speed, c.may)
	}
}

// P14.2, and rule 2: also where gen.May would allow a speed of 0.
func TestWantNowhere(t *testing.T) {
	for _, g := range []api.Gen{{}, {Pos: 7, Vel: 1}, {Vel: -5}, {Pos: 101}} {
		for _, l := range []api.Limits{plain(), widest(), {}} {
			for _, r := range nowhere() {
				tryWant(t, l, g, r, 0, false)
			}
			for _, den := range wrongDens() {
				tryWant(t, l, g, ratio{0, 0, 0, 1, den}, 0, false)
				tryWant(t, l, g, ratio{1, 0, 5, 1, den}, 0, false)
			}
		}
	}
}

// P14.2: the difference from Pos, at its edge and one beyond it; only a generator that is safe may have a speed at all.
func TestWantWithoutRoom(t *testing.T) {
	for _, c := range []struct {
		pos, place, speed int64
		has               bool
	}{
		{1, least + 1, least, true},
		{1, least, 0, false},
		{2, least + 1, 0, false},
		{-1, great - 1, great, true},
		{-1, great, 0, false},
		{-2, great - 1, 0, false},
		{100, least + 100, least, true},
		{100, least + 99, 0, false},
		{-100, great - 100, great, true},
		{-100, great - 99, 0, false},
		{maxPlace, least + maxPlace, least, true},
		{maxPlace, least + maxPlace - 1, 0, false},
		{-maxPlace, great - maxPlace, great, true},
		{-maxPlace, great - maxPlace + 1, 0, false},
		{least, -1, great, true},
		{least, 0, 0, false},
		{great, -1, least, true},
		{great, -2, 0, false},
		{least, great, 0, false},
		{great, least, 0, false},
	} {
		speed := c.speed
		if !c.has {
			speed = 0
		}
		tryWant(t, plain(), api.Gen{Pos: c.pos}, at(c.place), speed, false)
		tryWant(t, widest(), api.Gen{Pos: c.pos}, at(c.place), speed, false)
	}
}

// wrongLimits aren't right, each by one bound.
func wrongLimits() []api.Limits {
	all := []api.Limits{{}}
	for _, n := range []int64{0, -1, maxSpeed + 1, 1<<32 + 2, least, great} {
		for i := range 3 {
			l := plain()
			switch i {
			case 0:
				l.Vel = n
			case 1:
				l.Acc = n
			case 2:
				l.Dec = n
			}
			all = append(all, l)
		}
	}
	for _, ends := range [][2]int64{{1, 0}, {100, -100}, {-maxPlace - 1, 100}, {-100, maxPlace + 1}, {least, great}, {great, least}} {
		l := plain()
		l.Lo, l.Hi = ends[0], ends[1]
		all = append(all, l)
	}
	return all
}

// unsafeGens can't stop within the plain limits, or are beyond them.
func unsafeGens() []api.Gen {
	return []api.Gen{
		{Pos: 101}, {Pos: -101}, {Pos: 101, Vel: -1}, {Pos: 100, Vel: 4}, {Pos: 99, Vel: 5}, {Pos: -100, Vel: -4}, {Pos: -99, Vel: -5},
		{Vel: maxSpeed}, {Vel: maxSpeed + 1}, {Vel: -maxSpeed - 1}, {Vel: great}, {Vel: least}, {Pos: 1 << 32}, {Pos: 1 << 62}, {Pos: -1 << 62},
	}
}

// P14.2: of limits that aren't right or a generator that isn't safe, gen.May is 0, 0: it may have a speed of 0 alone.
func TestWantOfWrong(t *testing.T) {
	try := func(l api.Limits, g api.Gen) {
		t.Helper()
		for _, v := range []int64{-200, -5, -1, 0, 1, 2, 5, 200} {
			tryWant(t, l, g, at(g.Pos+v), v, v == 0)
			tryWant(t, l, g, ratio{g.Pos, 3, 3 - 2*v, -1, 2}, v, v == 0)
		}
	}
	for _, l := range wrongLimits() {
		for _, g := range append(unsafeGens(), api.Gen{}, api.Gen{Vel: 2}, api.Gen{Pos: 9, Vel: -2}) {
			try(l, g)
		}
	}
	for _, g := range unsafeGens() {
		try(plain(), g)
	}
}

// someLimits are right, small and great.
func someLimits() []api.Limits {
	return []api.Limits{
		plain(),
		widest(),
		{Vel: 1, Acc: 1, Dec: 1, Lo: -3, Hi: 3},
		{Vel: 5, Acc: 2, Dec: 2, Lo: -100, Hi: 100},
		{Vel: 4, Acc: 9, Dec: 20, Lo: -20, Hi: 30},
		{Vel: 40, Acc: 1, Dec: 1, Lo: -1000, Hi: 700},
		{Vel: 40, Acc: 30, Dec: 3, Lo: 5, Hi: 705},
		{Vel: 40, Acc: 3, Dec: 30, Lo: -705, Hi: -5},
		{Vel: 7, Acc: 7, Dec: 7, Lo: 2, Hi: 2},
		{Vel: maxSpeed, Acc: 12345, Dec: 54321, Lo: -9 * maxSpeed, Hi: 7 * maxSpeed},
		{Vel: 3000, Acc: maxGain, Dec: 90, Lo: -maxPlace, Hi: 70001 - maxPlace},
		{Vel: maxSpeed - 1, Acc: maxGain, Dec: maxGain - 1, Lo: maxPlace - 2*maxSpeed, Hi: maxPlace},
	}
}

// P14.2: held against numbers of any size, and the bounds that gen.May tells.
func TestWantOfDrawn(t *testing.T) {
	d, may, mayNot, without := draw{143}, 0, 0, 0
	limits := append(someLimits(), wrongLimits()...)
	for range 100000 {
		l := limits[d.below(int64(len(limits)))]
		g := api.Gen{Pos: d.number(), Vel: d.number()}
		if d.below(4) != 0 {
			g = api.Gen{Pos: (l.Lo+l.Hi)/2 + d.below(9) - 4, Vel: d.below(2*min(max(l.Vel, 1), 9)) - 4}
		}
		r := ratio{g.Pos, d.number(), 0, d.below(9) - 4, 1 + d.below(4)}
		if r.master = r.from + d.below(21) - 10; d.below(4) == 0 {
			r.master = d.number()
		} else if d.below(8) == 0 {
			r.master = great
		}
		v, has := exactWay(r, g.Pos)
		lowest, highest := gen.May(l, g)
		ok := has && lowest <= v && v <= highest
		tryWant(t, l, g, r, v, ok)
		switch {
		case ok:
			may++
		case has:
			mayNot++
		default:
			without++
		}
	}
	if may < 5000 || mayNot < 5000 || without < 500 {
		t.Errorf("%d may, %d may not, %d have no speed: this tries too little", may, mayNot, without)
	}
}

// size of a speed, without its sign.
func size(n int64) int64 { return max(n, -n) }

// tryBounds asks that a step kept the limits, and what it may gain and lose.
func tryBounds(t *testing.T, l api.Limits, g, next api.Gen) {
	t.Helper()
	change := size(next.Vel - g.Vel)
	switch {
	case !gen.Safe(l, next):
		t.Errorf("%+v: from %+v to %+v, not safe", l, g, next)
	case next.Pos < l.Lo || next.Pos > l.Hi:
		t.Errorf("%+v: from %+v to %+v, beyond its limits", l, g, next)
	case next.Pos != g.Pos+next.Vel:
		t.Errorf("%+v: from %+v to %+v, not where its speed leads", l, g, next)
	case change > l.Acc && change > l.Dec:
		t.Errorf("%+v: from %+v to %+v, changed by %d", l, g, next, change)
	case size(g.Vel) <= l.Vel && size(next.Vel) > l.Vel:
		t.Errorf("%+v: from %+v to %+v, too fast", l, g, next)
	case g.Vel > 0 && next.Vel < 0 || g.Vel < 0 && next.Vel > 0:
		t.Errorf("%+v: from %+v to %+v, turned", l, g, next)
	}
}

// tryFollows is a cycle: what P14.3 says of it, and whether it came to be where it should be by a speed that it might have.
func tryFollows(t *testing.T, l api.Limits, g api.Gen, r ratio) (api.Gen, bool) {
	t.Helper()
	v, ok := r.want(l, g)
	next := gen.Step(l, g, v)
	tryBounds(t, l, g, next)
	place, has := exact(r)
	if is := has && next.Pos == place; is != ok {
		t.Errorf("%+v: from %+v to %+v by %d, which it may have: %v; by %+v it should be at %d, %v", l, g, next, v, ok, r, place, has)
	}
	return next, ok
}

// masters are rows of a master's places, one a cycle; some jump from end to end of a number.
func masters() [][]int64 {
	all := [][]int64{
		{0},
		{great, least},
		{great},
		{least},
		{great, great, great, least, least, least, 0, 0, 0, 0},
		{0, 1, 2, 3, 4, 5, 6, 5, 4, 3, 2, 1},
		{0, 1, 3, 6, 10, 15, 20, 25, 30, 35, 40, 44, 47, 49, 50, 50, 49, 47, 44, 40, 35, 30, 25, 20, 15, 10, 6, 3, 1},
		{0, 0, 0, 0, 100, 100, 100, 100, 100, 100, 100, 100},
		{1 << 32, 1, 1 << 32, -1 << 32},
	}
	d := draw{145}
	walk := []int64{}
	for v, at := int64(0), int64(0); len(walk) < 97; at += v {
		v += d.below(5) - 2
		walk = append(walk, at)
	}
	wild := []int64{}
	for range 97 {
		wild = append(wild, d.number())
	}
	mostly := append(append([]int64{}, walk...), great, least, 0, 1, 2, great)
	return append(all, walk, wild, mostly)
}

// starts are safe generators of limits, at their ends and in the middle.
func starts(l api.Limits) []api.Gen {
	all, middle := []api.Gen{}, (l.Lo+l.Hi)/2
	for _, g := range []api.Gen{
		{Pos: l.Lo}, {Pos: l.Hi}, {Pos: middle}, {Pos: middle, Vel: 1}, {Pos: middle, Vel: -1}, {Pos: middle, Vel: 3 * l.Vel}, {Pos: middle, Vel: -3 * l.Vel},
		{Pos: l.Hi, Vel: -l.Vel}, {Pos: l.Lo, Vel: l.Vel}, {Pos: l.Hi - 2, Vel: 2}, {Pos: l.Lo + 2, Vel: -2},
	} {
		if gen.Safe(l, g) {
			all = append(all, g)
		}
	}
	return all
}

// tally counts steps to where the axis should be, and steps beside it.
type tally struct{ to, beside int }

// add a step.
func (c *tally) add(to bool) {
	if to {
		c.to++
	} else {
		c.beside++
	}
}

// enough asks that there are so many of each.
func (c *tally) enough(t *testing.T, n int) {
	t.Helper()
	if c.to < n || c.beside < n {
		t.Errorf("%d steps to where it should be, %d beside it: this tries too little", c.to, c.beside)
	}
}

// tryRow follows a row of a master's places again and again.
func tryRow(t *testing.T, l api.Limits, g api.Gen, r ratio, row []int64, count *tally) {
	t.Helper()
	for i := range 150 {
		r.master = row[i%len(row)]
		next, ok := tryFollows(t, l, g, r)
		count.add(ok)
		g = next
	}
}

// P14.3: whatever the master does.
func TestRows(t *testing.T) {
	count := tally{}
	for _, l := range someLimits() {
		for _, g := range starts(l) {
			for i, row := range masters() {
				for _, r := range []ratio{{g.Pos, 0, 0, 1, 1}, {g.Pos, row[0], 0, -3, 2}, {g.Pos, 2, 0, 2, 7}, {g.Pos - 3, 0, 0, int64(i), 9}, {0, 0, 0, great, great - 1}} {
					tryRow(t, l, g, r, row, &count)
				}
			}
		}
	}
	count.enough(t, 100000)
}

// limits are drawn, and right; 0 is within them.
func (d *draw) limits() api.Limits {
	return api.Limits{Vel: 1 + d.below(60), Acc: 1 + d.below(20), Dec: 1 + d.below(20), Lo: -d.below(3000), Hi: d.below(3000)}
}

// P14.3: limits, ratio and master are drawn; the master goes on from where it is, and jumps now and then.
func TestDrawnRows(t *testing.T) {
	d, count := draw{144}, tally{}
	for range 400 {
		l := d.limits()
		g, r, v := api.Gen{}, ratio{0, 0, 0, d.below(19) - 9, 1 + d.below(9)}, int64(0)
		for range 500 {
			v += d.below(7) - 3
			if r.master += v; d.below(60) == 0 {
				r.master, v = d.number(), 0
			} else if d.below(30) == 0 {
				r.master, v = g.Pos, 0
			}
			next, ok := tryFollows(t, l, g, r)
			count.add(ok)
			g = next
		}
	}
	count.enough(t, 20000)
}

// P14.3: a master that does no more than the axis may do is followed in each cycle.
func TestGentleMaster(t *testing.T) {
	d := draw{146}
	for range 300 {
		l := d.limits()
		master, axis := api.Gen{}, api.Gen{}
		far := d.number() >> 20
		for range 300 {
			want := d.below(121) - 60
			if d.below(2) == 0 {
				want = master.Vel
			}
			master = gen.Step(l, master, want)
			r := ratio{0, far, far + master.Pos, 1, 1}
			next, ok := tryFollows(t, l, axis, r)
			if !ok || next != master {
				t.Fatalf("%+v: at %+v, where the master is at %+v", l, next, master)
			}
			axis = next
		}
	}
}

// cycle is what is to come of one.
type cycle struct {
	master, speed int64
	may           bool
	pos, vel      int64
}

// tryCycles goes by cycles that are written out.
func tryCycles(t *testing.T, l api.Limits, g api.Gen, r ratio, cycles []cycle) {
	t.Helper()
	for i, c := range cycles {
		r.master = c.master
		v, ok := r.want(l, g)
		if g = gen.Step(l, g, v); v != c.speed || ok != c.may || g != (api.Gen{Pos: c.pos, Vel: c.vel}) {
			t.Errorf("cycle %d, master at %d: %d %v, to %+v; not %+v", i, c.master, v, ok, g, c)
			return
		}
	}
}

// P14.2, P14.3: rows whose every number is written out.
func TestRowsWrittenOut(t *testing.T) {
	// It loses the master, who is too fast, and comes up with him again.
	tryCycles(t, plain(), api.Gen{}, ratio{0, 0, 0, 1, 1}, []cycle{
		{1, 1, true, 1, 1},
		{4, 3, true, 4, 3},
		{9, 5, true, 9, 5},
		{15, 6, false, 14, 5},
		{20, 6, false, 19, 5},
		{23, 4, true, 23, 4},
		{23, 0, false, 24, 1},
		{23, -1, false, 24, 0},
		{23, -1, true, 23, -1},
		{23, 0, true, 23, 0},
	})
	// Half of the master's way, rounded down, from a place of its own; where he jumps, it only goes on as it may.
	tryCycles(t, plain(), api.Gen{Pos: 50}, ratio{50, 1000, 0, 1, 2}, []cycle{
		{1001, 0, true, 50, 0},
		{1002, 1, true, 51, 1},
		{1005, 1, true, 52, 1},
		{great, 1<<62 - 503, false, 55, 3},
		{least, 0, false, 55, 0},
		{1009, -1, true, 54, -1},
		{999, -5, false, 51, -3},
		{999, -2, true, 49, -2},
		{999, 0, true, 49, 0},
	})
	// The master goes beyond where the axis may: it comes to a stop at its limit, and follows again once it may.
	tryCycles(t, api.Limits{Vel: 5, Acc: 5, Dec: 3, Lo: -20, Hi: 10}, api.Gen{}, ratio{0, 0, 0, -1, 1}, []cycle{
		{-4, 4, true, 4, 4},
		{-9, 5, false, 8, 4},
		{-12, 4, false, 10, 2},
		{-14, 4, false, 10, 0},
		{-14, 4, false, 10, 0},
		{-11, 1, false, 10, 0},
		{-10, 0, true, 10, 0},
		{-8, -2, true, 8, -2},
	})
	// A ratio that isn't right: it brakes, and stands.
	tryCycles(t, plain(), api.Gen{Vel: 5}, ratio{0, 0, 0, 1, 0}, []cycle{
		{7, 0, false, 2, 2},
		{7, 0, false, 2, 0},
		{0, 0, false, 2, 0},
	})
}

// Rule 4: what is asked in between changes nothing.
func TestNothingIsKept(t *testing.T) {
	for range 3 {
		tryWant(t, plain(), api.Gen{}, ratio{0, 0, 5, 1, 2}, 2, true)
		tryWant(t, plain(), api.Gen{}, ratio{0, 0, great, 2, 1}, 0, false)
		tryPlace(t, ratio{100, 0, 7, 1, 2})
		tryPlace(t, ratio{100, least, 7, 1, 0})
	}
}

// The limits are api's, as they are written out above.
func TestLimits(t *testing.T) {
	if maxPlace != api.MaxPos || maxSpeed != api.MaxVel || maxGain != api.MaxAcc {
		t.Error("api has other limits")
	}
}
