package q

import (
	"math"
	"math/big"
	"testing"

	"servitor/api"
)

const (
	least = math.MinInt64
	great = math.MaxInt64
)

// edges are numbers at which answers change: small ones, those about powers of 2, about roots, and about both ends.
func edges() []int64 {
	l := []int64{0, 6, 10, 99, 100, 3037000498, 3037000499, 3037000500, 3037000501, 1000000007, 6074001000, great / 3, great / 3 * 2}
	for _, shift := range []int{0, 1, 2, 20, 31, 32, 33, 40, 61, 62} {
		power := int64(1) << shift
		l = append(l, power-1, power, power+1)
	}
	for _, n := range l[:len(l):len(l)] {
		l = append(l, -n)
	}
	return append(l, least, least+1, least+2, least/2-1, great, great-1, great-2, great/2)
}

// room: the number that n is; 0 and false: it has no room.
func room(n *big.Int) (int64, bool) {
	if !n.IsInt64() {
		return 0, false
	}
	return n.Int64(), true
}

func product(a, b int64) *big.Int {
	return new(big.Int).Mul(big.NewInt(a), big.NewInt(b))
}

type pair struct {
	a, b, n int64
	ok      bool
}

func tryPairs(t *testing.T, name string, f func(a, b int64) (int64, bool), l []pair) {
	t.Helper()
	for _, c := range l {
		if n, ok := f(c.a, c.b); n != c.n || ok != c.ok {
			t.Errorf("%s(%d, %d): %d %v, not %d %v", name, c.a, c.b, n, ok, c.n, c.ok)
		}
	}
}

// P1.1
func TestAdd(t *testing.T) {
	tryPairs(t, "Add", Add, []pair{
		{2, 3, 5, true},
		{-2, -3, -5, true},
		{-7, 3, -4, true},
		{0, 0, 0, true},
		{great, 0, great, true},
		{great - 1, 1, great, true},
		{great, 1, 0, false},
		{1, great, 0, false},
		{great, great, 0, false},
		{least, 0, least, true},
		{least + 1, -1, least, true},
		{least, -1, 0, false},
		{-1, least, 0, false},
		{least, least, 0, false},
		{least, great, -1, true},
		{1 << 62, 1 << 62, 0, false},
		{-1 << 62, -1 << 62, least, true},
	})
}

// P1.1
func TestSub(t *testing.T) {
	tryPairs(t, "Sub", Sub, []pair{
		{5, 3, 2, true},
		{3, 5, -2, true},
		{-3, -5, 2, true},
		{0, 0, 0, true},
		{0, great, -great, true},
		{0, least, 0, false},
		{-1, least, great, true},
		{least, least, 0, true},
		{great, great, 0, true},
		{great, -1, 0, false},
		{great - 1, -1, great, true},
		{least, 1, 0, false},
		{least + 1, 1, least, true},
		{-2, great, 0, false},
		{-1, great, least, true},
		{least, great, 0, false},
		{great, least, 0, false},
	})
}

// P1.1
func TestMul(t *testing.T) {
	tryPairs(t, "Mul", Mul, []pair{
		{6, 7, 42, true},
		{-6, 7, -42, true},
		{-6, -7, 42, true},
		{0, least, 0, true},
		{great, 0, 0, true},
		{least, 1, least, true},
		{1, least, least, true},
		{least, -1, 0, false},
		{-1, least, 0, false},
		{great, -1, -great, true},
		{great, 2, 0, false},
		{great, great, 0, false},
		{least, least, 0, false},
		{least, great, 0, false},
		{least / 2, 2, least, true},
		{least / 2, -2, 0, false},
		{1 << 62, -2, least, true},
		{1 << 62, 2, 0, false},
		{1 << 32, 1 << 32, 0, false},
		{3037000499, 3037000499, 9223372030926249001, true},
		{3037000500, 3037000500, 0, false},
	})
}

// P1.1
func TestAddSubMulAtEdges(t *testing.T) {
	for _, a := range edges() {
		for _, b := range edges() {
			sum, sumRoom := room(new(big.Int).Add(big.NewInt(a), big.NewInt(b)))
			tryPairs(t, "Add", Add, []pair{{a, b, sum, sumRoom}})
			diff, diffRoom := room(new(big.Int).Sub(big.NewInt(a), big.NewInt(b)))
			tryPairs(t, "Sub", Sub, []pair{{a, b, diff, diffRoom}})
			times, timesRoom := room(product(a, b))
			tryPairs(t, "Mul", Mul, []pair{{a, b, times, timesRoom}})
		}
	}
}

type split struct {
	a, b, n int64
	e       api.Errno
}

func trySplits(t *testing.T, name string, f func(a, b int64) (int64, api.Errno), l []split) {
	t.Helper()
	for _, c := range l {
		if n, e := f(c.a, c.b); n != c.n || e != c.e {
			t.Errorf("%s(%d, %d): %d %d, not %d %d", name, c.a, c.b, n, e, c.n, c.e)
		}
	}
}

// P1.1
func TestDiv(t *testing.T) {
	trySplits(t, "Div", Div, []split{
		{7, 2, 3, api.OK},
		{-7, 2, -3, api.OK},
		{7, -2, -3, api.OK},
		{-7, -2, 3, api.OK},
		{1, 2, 0, api.OK},
		{-1, 2, 0, api.OK},
		{0, 5, 0, api.OK},
		{0, 0, 0, api.ErrZero},
		{7, 0, 0, api.ErrZero},
		{least, 0, 0, api.ErrZero},
		{great, 0, 0, api.ErrZero},
		{least, -1, 0, api.ErrOver},
		{least, 1, least, api.OK},
		{least, 2, least / 2, api.OK},
		{least, -2, 1 << 62, api.OK},
		{least + 1, -1, great, api.OK},
		{great, -1, -great, api.OK},
		{great, least, 0, api.OK},
		{least, great, -1, api.OK},
		{least, least, 1, api.OK},
	})
}

// P1.1
func TestMod(t *testing.T) {
	trySplits(t, "Mod", Mod, []split{
		{7, 3, 1, api.OK},
		{-7, 3, -1, api.OK},
		{7, -3, 1, api.OK},
		{-7, -3, -1, api.OK},
		{6, 3, 0, api.OK},
		{0, 5, 0, api.OK},
		{0, 0, 0, api.ErrZero},
		{7, 0, 0, api.ErrZero},
		{least, 0, 0, api.ErrZero},
		{least, -1, 0, api.OK},
		{5, -1, 0, api.OK},
		{least, 1, 0, api.OK},
		{least, great, -1, api.OK},
		{great, least, great, api.OK},
		{least, least, 0, api.OK},
		{least, 10, -8, api.OK},
		{great, 10, 7, api.OK},
	})
}

// P1.1
func TestDivModAtEdges(t *testing.T) {
	for _, a := range edges() {
		for _, b := range edges() {
			quotient, rest := split{a, b, 0, api.ErrZero}, split{a, b, 0, api.ErrZero}
			if b != 0 {
				exact, left := new(big.Int).QuoRem(big.NewInt(a), big.NewInt(b), new(big.Int))
				quotient.n, quotient.e, rest.n, rest.e = 0, api.ErrOver, left.Int64(), api.OK
				if n, ok := room(exact); ok {
					quotient.n, quotient.e = n, api.OK
				}
			}
			trySplits(t, "Div", Div, []split{quotient})
			trySplits(t, "Mod", Mod, []split{rest})
		}
	}
}

func tryMulDiv(t *testing.T, a, b, c, n int64, e api.Errno) {
	t.Helper()
	if have, errno := MulDiv(a, b, c); have != n || errno != e {
		t.Errorf("MulDiv(%d, %d, %d): %d %d, not %d %d", a, b, c, have, errno, n, e)
	}
}

// P1.2
func TestMulDiv(t *testing.T) {
	for _, c := range []struct {
		a, b, c, n int64
		e          api.Errno
	}{
		{7, 3, 2, 10, api.OK},
		{-7, 3, 2, -11, api.OK},
		{7, -3, 2, -11, api.OK},
		{-7, -3, 2, 10, api.OK},
		{-6, 3, 2, -9, api.OK},
		{-1, 1, great, -1, api.OK},
		{1, 1, great, 0, api.OK},
		{0, -5, 3, 0, api.OK},
		{-5, 0, 3, 0, api.OK},
		{great, great, great, great, api.OK},
		{least, great, great, least, api.OK},
		{least, least, great, 0, api.ErrOver},
		{least, 1, 1, least, api.OK},
		{least, -1, 1, 0, api.ErrOver},
		{least, -1, 2, 1 << 62, api.OK},
		{great, 2, 1, 0, api.ErrOver},
		{great, 2, 2, great, api.OK},
		{least, 3, 2, 0, api.ErrOver},
		{least, 2, 2, least, api.OK},
		{great, great, 1, 0, api.ErrOver},
		{least, least, 1, 0, api.ErrOver},
		{-1 << 62, 6, 3, least, api.OK},
		{-1317624576693539401, 7, 1, -great, api.OK},
		{1317624576693539401, 14, 2, great, api.OK},
		// 2^63 - 1/2, either way: rounded down both have room.
		{6148914691236517205, 3, 2, great, api.OK},
		{-6148914691236517205, 3, 2, least, api.OK},
		// 2^63 + 1/2, either way: rounded towards 0 the one below 0 would have room.
		{67280421310721, 274177, 2, 0, api.ErrOver},
		{-67280421310721, 274177, 2, 0, api.ErrOver},
		// 2^64 - 1/2, either way: without its sign, rounded away from 0, it would wrap round to 0.
		{145295143558111, 253921, 2, 0, api.ErrOver},
		{-145295143558111, 253921, 2, 0, api.ErrOver},
		{1 << 62, 4, 1, 0, api.ErrOver},
		{-1 << 62, 4, 1, 0, api.ErrOver},
		{1, 1, 0, 0, api.ErrZero},
		{0, 0, 0, 0, api.ErrZero},
		{least, least, 0, 0, api.ErrZero},
		{1, 1, -1, 0, api.ErrArg},
		{0, 0, -1, 0, api.ErrArg},
		{great, great, least, 0, api.ErrArg},
	} {
		tryMulDiv(t, c.a, c.b, c.c, c.n, c.e)
	}
}

// P1.2
func TestMulDivAtEdges(t *testing.T) {
	for _, a := range edges() {
		for _, b := range edges() {
			for _, c := range edges() {
				if c < 0 {
					tryMulDiv(t, a, b, c, 0, api.ErrArg)
					continue
				}
				if c == 0 {
					tryMulDiv(t, a, b, c, 0, api.ErrZero)
					continue
				}
				// Div of package big leaves a rest from 0 on: by a number above 0 it rounds down.
				if n, ok := room(new(big.Int).Div(product(a, b), big.NewInt(c))); ok {
					tryMulDiv(t, a, b, c, n, api.OK)
				} else {
					tryMulDiv(t, a, b, c, 0, api.ErrOver)
				}
			}
		}
	}
}

// P1.3
func TestSqrt(t *testing.T) {
	for _, c := range []struct{ n, root int64 }{
		{least, 0},
		{-4, 0},
		{-1, 0},
		{0, 0},
		{1, 1},
		{2, 1},
		{3, 1},
		{4, 2},
		{99, 9},
		{100, 10},
		{9223372030926249000, 3037000498},
		{9223372030926249001, 3037000499},
		{great, 3037000499},
	} {
		if root := Sqrt(c.n); root != c.root {
			t.Errorf("Sqrt(%d): %d, not %d", c.n, root, c.root)
		}
	}
}

// P1.3
func TestSqrtBesideSquares(t *testing.T) {
	roots := []int64{3037000499, 3037000498, 2147483648, 2147483647, 1 << 26, 1<<26 + 1, 94906265, 94906266, 94906267}
	for root := range int64(2000) {
		roots = append(roots, root+1, (root+1)*1518499)
	}
	for _, root := range roots {
		square := root * root
		if n := Sqrt(square - 1); n != root-1 {
			t.Errorf("Sqrt(%d): %d, not %d", square-1, n, root-1)
		}
		if n := Sqrt(square); n != root {
			t.Errorf("Sqrt(%d): %d, not %d", square, n, root)
		}
		if n := Sqrt(square + 1); n != root {
			t.Errorf("Sqrt(%d): %d, not %d", square+1, n, root)
		}
	}
}

// P1.3
func TestClamp(t *testing.T) {
	for _, c := range []struct{ n, lo, hi, to int64 }{
		{5, 1, 9, 5},
		{5, 1, 3, 3},
		{5, 7, 9, 7},
		{5, 5, 9, 5},
		{5, 1, 5, 5},
		{5, 3, 3, 3},
		{-5, -9, -7, -7},
		{-5, -3, 3, -3},
		{5, 7, 6, 7},
		{8, 7, 6, 7},
		{6, 7, 6, 7},
		{7, 7, 6, 7},
		{1, 7, 3, 7},
		{great, least, great, great},
		{least, least, great, least},
		{great, least, 0, 0},
		{least, 0, great, 0},
		{0, great, least, great},
		{great, 0, least, 0},
	} {
		if n := Clamp(c.n, c.lo, c.hi); n != c.to {
			t.Errorf("Clamp(%d, %d, %d): %d, not %d", c.n, c.lo, c.hi, n, c.to)
		}
	}
}
