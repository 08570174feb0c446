package quant_test

import (
	"math"
	"math/big"
	"slices"
	"testing"

	"drayage/api"
	"drayage/quant"
)

// some are numbers on both sides of each bound.
var some = []int{math.MinInt, math.MinInt + 1, -1 << 40, -1001, -2, -1, 0, 1, 2, 3, 7, 999, 1000, 1001, 1<<20 - 1, 1 << 20, 1<<20 + 1,
	1 << 39, 1<<40 - 1, 1 << 40, 1<<40 + 1, 1 << 41, 1 << 62, math.MaxInt - 1, math.MaxInt}

// bounded is what comes out, unless it is too much.
func bounded(n *big.Int) (int, api.Errno) {
	if n.Cmp(big.NewInt(1<<40)) > 0 {
		return 0, api.ErrOver
	}
	return int(n.Int64()), api.OK
}

// wantOfPair is what P1.4 asks for, reckoned in numbers of any size: ErrArg ahead of ErrOver.
func wantOfPair(a, b int, isArg bool, reckon func(a, b *big.Int) (int, api.Errno)) (int, api.Errno) {
	switch {
	case a < 0 || b < 0 || isArg:
		return 0, api.ErrArg
	case a > 1<<40 || b > 1<<40:
		return 0, api.ErrOver
	}
	return reckon(big.NewInt(int64(a)), big.NewInt(int64(b)))
}

func sumOf(a, b *big.Int) (int, api.Errno)     { return bounded(new(big.Int).Add(a, b)) }
func restOf(a, b *big.Int) (int, api.Errno)    { return bounded(new(big.Int).Sub(a, b)) }
func productOf(a, b *big.Int) (int, api.Errno) { return bounded(new(big.Int).Mul(a, b)) }

func shareOf(a, b *big.Int) (int, api.Errno) {
	if b.Sign() == 0 {
		return 0, api.OK
	}
	n := new(big.Int).Mul(a, big.NewInt(1000))
	return int(n.Div(n, b).Int64()), api.OK
}

// TestReckonPairs (P1.4): each of two of these numbers.
func TestReckonPairs(t *testing.T) {
	for _, a := range some {
		for _, b := range some {
			n, e := wantOfPair(a, b, false, sumOf)
			checkPair(t, "Add", func(a, b int) (int, api.Errno) { return quant.Add(a, b) }, a, b, n, e)
			n, e = wantOfPair(a, b, b > a, restOf)
			checkPair(t, "Sub", quant.Sub, a, b, n, e)
			n, e = wantOfPair(a, b, false, productOf)
			checkPair(t, "Mul", quant.Mul, a, b, n, e)
			n, e = wantOfPair(a, b, b == 0 && a != 0, shareOf)
			checkPair(t, "Share", quant.Share, a, b, n, e)
		}
	}
}

// TestReckonEdges (P1.4): the edges, said one by one.
func TestReckonEdges(t *testing.T) {
	const most = 1 << 40
	checkPair(t, "Sub", quant.Sub, 3, 3, 0, api.OK)
	checkPair(t, "Sub", quant.Sub, most, 1, most-1, api.OK)
	checkPair(t, "Sub", quant.Sub, most+1, most+1, 0, api.ErrOver)
	checkPair(t, "Sub", quant.Sub, most+1, most+2, 0, api.ErrArg)
	checkPair(t, "Sub", quant.Sub, most+1, -1, 0, api.ErrArg)
	checkPair(t, "Mul", quant.Mul, 1<<20, 1<<20, most, api.OK)
	checkPair(t, "Mul", quant.Mul, 1<<20, 1<<20+1, 0, api.ErrOver)
	checkPair(t, "Mul", quant.Mul, most, 1, most, api.OK)
	checkPair(t, "Mul", quant.Mul, 0, most+1, 0, api.ErrOver)
	checkPair(t, "Mul", quant.Mul, most, most, 0, api.ErrOver)
	checkPair(t, "Mul", quant.Mul, most+1, -1, 0, api.ErrArg)
	checkPair(t, "Share", quant.Share, 2, 3, 666, api.OK)
	checkPair(t, "Share", quant.Share, 3, 2, 1500, api.OK)
	checkPair(t, "Share", quant.Share, 0, 5, 0, api.OK)
	checkPair(t, "Share", quant.Share, most, most, 1000, api.OK)
	checkPair(t, "Share", quant.Share, most, 1, most*1000, api.OK)
	checkPair(t, "Share", quant.Share, most+1, 0, 0, api.ErrArg)
	checkPair(t, "Share", quant.Share, 1, most+1, 0, api.ErrOver)
}

// TestAddLists (P1.4): of none, of many; what is handed in stays as it is.
func TestAddLists(t *testing.T) {
	for _, x := range []struct {
		l []int
		n int
		e api.Errno
	}{
		{nil, 0, api.OK},
		{[]int{}, 0, api.OK},
		{[]int{5}, 5, api.OK},
		{[]int{1, 2, 3, 4}, 10, api.OK},
		{[]int{1 << 40, 0, 0}, 1 << 40, api.OK},
		{[]int{1 << 39, 1 << 38, 1 << 38}, 1 << 40, api.OK},
		{[]int{1 << 39, 1 << 38, 1 << 38, 1}, 0, api.ErrOver},
		{[]int{1 << 40, 1 << 40, -1}, 0, api.ErrArg},
		{[]int{1<<40 + 1, -1}, 0, api.ErrArg},
		{[]int{1<<40 + 1}, 0, api.ErrOver},
		{[]int{-1}, 0, api.ErrArg},
		{[]int{math.MaxInt, math.MaxInt, 2}, 0, api.ErrOver}, // what would go round to 0
	} {
		was := slices.Clone(x.l)
		if n, e := quant.Add(x.l...); n != x.n || e != x.e || !slices.Equal(was, x.l) {
			t.Errorf("Add(%v): %d, %d, not %d, %d; then %v", was, n, e, x.n, x.e, x.l)
		}
	}
	many := make([]int, 1<<23)
	for i := range many {
		many[i] = 1 << 40 // all together are 2^63: beyond an int
	}
	if n, e := quant.Add(many...); n != 0 || e != api.ErrOver {
		t.Error(n, e)
	}
}
