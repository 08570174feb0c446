package vec_test

import (
	"math"
	"math/big"
	"slices"
	"testing"

	"drayage/api"
	"drayage/quant"
	"drayage/vec"
)

const most = 1 << 40

// some are numbers on both sides of each bound.
var some = []int{math.MinInt, -most, -1, 0, 1, 2, 999, 1000, 1 << 20, 1<<20 + 1, most - 1, most, most + 1, math.MaxInt}

// eachRow goes through rows that are ordinary but for one or two places, which have each of these numbers.
func eachRow(l []int, f func(v api.Vec)) {
	for i := range api.Kinds {
		for j := range i + 1 {
			for _, a := range l {
				for _, b := range l {
					v := api.Vec{5, 4, 3, 2, 1}
					v[i], v[j] = a, b
					f(v)
				}
			}
		}
	}
}

// TestExamples holds the chapter's table.
func TestExamples(t *testing.T) {
	v := api.Vec{1500, 1 << 20, 0, 3, 0}
	text := "cpu=1500m,mem=1Mi,slots=3"
	checkPrint(t, v, text, api.OK)
	checkParse(t, text, said{v, 0, api.OK})
	checkParse(t, "mem=1,cpu=1", said{api.Vec{}, 6, api.ErrForm})
	checkParse(t, "cpu=", said{api.Vec{}, 4, api.ErrTrunc})
	checkParse(t, "cpu=0", said{api.Vec{}, 0, api.ErrForm})
	checkParse(t, "cpu=1,", said{api.Vec{}, 6, api.ErrTrunc})
	if !vec.Fits(api.Vec{1, 2}, api.Vec{1, 3}) {
		t.Error("(1, 2) does not fit in (1, 3)")
	}
	if n := vec.Over(api.Vec{5, 1}, api.Vec{3, 3}); n != 2 {
		t.Error("Over:", n)
	}
	if n, e := vec.Share(api.Vec{1, 2}, api.Vec{4, 4}); n != 500 || e != api.OK {
		t.Error("Share:", n, e)
	}
}

// TestCheck (P2.1): both errors at each place, and which of them is told, if a row has both.
func TestCheck(t *testing.T) {
	eachRow(some, func(v api.Vec) {
		want := api.OK
		if slices.Max(v[:]) > most {
			want = api.ErrOver
		}
		if slices.Min(v[:]) < 0 {
			want = api.ErrArg
		}
		if e := vec.Check(v); e != want {
			t.Errorf("Check(%v): %d, not %d", v, e, want)
		}
	})
	for v, want := range map[api.Vec]api.Errno{
		{}:                              api.OK,
		{most, most, most, most, most}:  api.OK,
		{most + 1, 0, 0, 0, -1}:         api.ErrArg,
		{-1, 0, 0, 0, most + 1}:         api.ErrArg,
		{most, most, most, most + 1}:    api.ErrOver,
		{0, 0, 0, 0, math.MinInt}:       api.ErrArg,
		{0, 0, 0, 0, math.MaxInt}:       api.ErrOver,
		{1000, 1 << 20, 1 << 30, 10, 1}: api.OK,
	} {
		if e := vec.Check(v); e != want {
			t.Errorf("Check(%v): %d, not %d", v, e, want)
		}
	}
}

// wantRow is what P2.1 asks for: what is reckoned of each place, or the first error.
func wantRow(reckon func(place int) (int, api.Errno)) (v api.Vec, e api.Errno) {
	for i := 0; i < api.Kinds && e == api.OK; i++ {
		v[i], e = reckon(i)
	}
	if e != api.OK {
		v = api.Vec{}
	}
	return v, e
}

func checkRow(t *testing.T, name string, got api.Vec, e api.Errno, want api.Vec, wantE api.Errno) {
	t.Helper()
	if got != want || e != wantE {
		t.Errorf("%s: %v, %d, not %v, %d", name, got, e, want, wantE)
	}
}

// TestReckon (P2.1): place by place what quant says, at each bound.
func TestReckon(t *testing.T) {
	others := []api.Vec{{}, {5, 4, 3, 2, 1}, {most, 1, 1000, most, 1}, {1, -1, most + 1, 0, 2}, {most + 1, 0, 0, 0, -1}, {2, 2, 2, 2, math.MaxInt}}
	eachRow(some, func(v api.Vec) {
		for _, w := range others {
			got, e := vec.Plus(v, w)
			want, wantE := wantRow(func(i int) (int, api.Errno) { return quant.Add(v[i], w[i]) })
			checkRow(t, "Plus", got, e, want, wantE)
			got, e = vec.Minus(v, w)
			want, wantE = wantRow(func(i int) (int, api.Errno) { return quant.Sub(v[i], w[i]) })
			checkRow(t, "Minus", got, e, want, wantE)
			got, e = vec.Minus(w, v)
			want, wantE = wantRow(func(i int) (int, api.Errno) { return quant.Sub(w[i], v[i]) })
			checkRow(t, "Minus", got, e, want, wantE)
		}
		for _, n := range some {
			got, e := vec.Times(v, n)
			want, wantE := wantRow(func(i int) (int, api.Errno) { return quant.Mul(v[i], n) })
			checkRow(t, "Times", got, e, want, wantE)
		}
	})
}

// TestReckonByHand (P2.1): the same, with answers that are written out.
func TestReckonByHand(t *testing.T) {
	a, b := api.Vec{9, 8, 7, 6, 5}, api.Vec{1, 2, 3, 4, 5}
	got, e := vec.Plus(a, b)
	checkRow(t, "Plus", got, e, api.Vec{10, 10, 10, 10, 10}, api.OK)
	got, e = vec.Plus(api.Vec{most, -1}, api.Vec{1})
	checkRow(t, "Plus, too much ahead of below 0", got, e, api.Vec{}, api.ErrOver)
	got, e = vec.Plus(api.Vec{-1, most}, api.Vec{0, 1})
	checkRow(t, "Plus, below 0 ahead of too much", got, e, api.Vec{}, api.ErrArg)
	got, e = vec.Minus(a, b)
	checkRow(t, "Minus", got, e, api.Vec{8, 6, 4, 2, 0}, api.OK)
	got, e = vec.Minus(b, a)
	checkRow(t, "Minus, too little", got, e, api.Vec{}, api.ErrArg)
	got, e = vec.Minus(a, api.Vec{0, 0, 0, 0, 6})
	checkRow(t, "Minus, too little at the last place", got, e, api.Vec{}, api.ErrArg)
	got, e = vec.Minus(api.Vec{most + 1, 1}, api.Vec{0, 2})
	checkRow(t, "Minus, too much ahead of too little", got, e, api.Vec{}, api.ErrOver)
	got, e = vec.Times(a, 3)
	checkRow(t, "Times", got, e, api.Vec{27, 24, 21, 18, 15}, api.OK)
	got, e = vec.Times(a, 0)
	checkRow(t, "Times 0", got, e, api.Vec{}, api.OK)
	got, e = vec.Times(api.Vec{}, -1)
	checkRow(t, "Times -1", got, e, api.Vec{}, api.ErrArg)
	got, e = vec.Times(api.Vec{}, most+1)
	checkRow(t, "Times too much", got, e, api.Vec{}, api.ErrOver)
	got, e = vec.Times(api.Vec{0, 0, 0, 0, 1<<20 + 1}, 1<<20)
	checkRow(t, "Times, too much at the last place", got, e, api.Vec{}, api.ErrOver)
}

// TestPlusLists (P2.1): of none, of many; what is handed in stays as it is, its spare room too.
func TestPlusLists(t *testing.T) {
	one := api.Vec{1, 2, 3, 4, 5}
	for _, x := range []struct {
		l    []api.Vec
		want api.Vec
		e    api.Errno
	}{
		{nil, api.Vec{}, api.OK},
		{[]api.Vec{}, api.Vec{}, api.OK},
		{[]api.Vec{one}, one, api.OK},
		{[]api.Vec{one, one, one}, api.Vec{3, 6, 9, 12, 15}, api.OK},
		{[]api.Vec{{most + 1}}, api.Vec{}, api.ErrOver},
		{[]api.Vec{{0, 0, 0, 0, -1}}, api.Vec{}, api.ErrArg},
		{[]api.Vec{{0, most / 2}, {0, most / 4}, {0, most / 4}}, api.Vec{0, most}, api.OK},
		{[]api.Vec{{0, most / 2}, {0, most / 4}, {0, most / 4}, {0, 1}}, api.Vec{}, api.ErrOver},
		{[]api.Vec{{most}, {most}, {-1}}, api.Vec{}, api.ErrArg}, // quant.Add of that place says so
		{[]api.Vec{{math.MaxInt}, {math.MaxInt}, {2}}, api.Vec{}, api.ErrOver},
	} {
		room := append(slices.Clone(x.l), api.Vec{7, 7, 7, 7, 7})
		was := slices.Clone(room)
		got, e := vec.Plus(room[:len(x.l)]...)
		checkRow(t, "Plus", got, e, x.want, x.e)
		if !slices.Equal(room, was) {
			t.Errorf("Plus has made %v of %v", room, was)
		}
	}
}

// TestFits (P2.2): at each place just as much, one more, one less.
func TestFits(t *testing.T) {
	in := api.Vec{10, 20, 30, 40, 50}
	if !vec.Fits(in, in) || !vec.Fits(api.Vec{}, in) || vec.Fits(in, api.Vec{}) {
		t.Error("a row, or noughts, in that row, or that row in noughts")
	}
	for i := range api.Kinds {
		for by := -1; by <= 1; by++ {
			a := in
			a[i] += by
			if vec.Fits(a, in) != (by <= 0) {
				t.Errorf("Fits(%v, %v): %v", a, in, vec.Fits(a, in))
			}
		}
	}
	// Rows that may not be are held against each other, too.
	if !vec.Fits(api.Vec{math.MinInt, -1}, api.Vec{math.MaxInt, -1}) || vec.Fits(api.Vec{math.MaxInt}, api.Vec{math.MinInt}) || vec.Fits(api.Vec{0, -1}, api.Vec{0, -2}) {
		t.Error("rows that may not be")
	}
}

// wantOver is what P2.2 asks for, reckoned in numbers of any size, and brought round at last.
func wantOver(a, in api.Vec) int {
	sum := new(big.Int)
	for i := range a {
		by := new(big.Int).Sub(big.NewInt(int64(a[i])), big.NewInt(int64(in[i])))
		if by.Sign() > 0 {
			sum.Add(sum, by)
		}
	}
	round := new(big.Int).Lsh(big.NewInt(1), 64)
	return int(sum.Mod(sum, round).Uint64())
}

// TestOver (P2.2): what is less at one place takes nothing off what is more at another; beyond an int it goes round.
func TestOver(t *testing.T) {
	for _, x := range []struct {
		a, in api.Vec
		want  int
	}{
		{api.Vec{}, api.Vec{}, 0},
		{api.Vec{1, 2, 3, 4, 5}, api.Vec{}, 15},
		{api.Vec{1, 2, 3, 4, 5}, api.Vec{5, 4, 3, 2, 1}, 6},
		{api.Vec{0, 0, 0, 0, 9}, api.Vec{9, 9, 9, 9, 8}, 1},
		{api.Vec{most, most, most, most, most}, api.Vec{}, 5 * most},
		{api.Vec{}, api.Vec{-1, 0, 0, 0, -2}, 3},
		{api.Vec{math.MaxInt}, api.Vec{-1}, math.MinInt},
		{api.Vec{math.MaxInt, 1}, api.Vec{}, math.MinInt},
		{api.Vec{math.MaxInt, math.MaxInt, 3}, api.Vec{}, 1},
		{api.Vec{math.MaxInt}, api.Vec{math.MinInt}, -1},
	} {
		if n := vec.Over(x.a, x.in); n != x.want {
			t.Errorf("Over(%v, %v): %d, not %d", x.a, x.in, n, x.want)
		}
	}
	in := api.Vec{5, -1, most, math.MaxInt, math.MinInt}
	eachRow(some, func(v api.Vec) {
		if n, want := vec.Over(v, in), wantOver(v, in); n != want {
			t.Errorf("Over(%v, %v): %d, not %d", v, in, n, want)
		}
		if n, want := vec.Over(in, v), wantOver(in, v); n != want {
			t.Errorf("Over(%v, %v): %d, not %d", in, v, n, want)
		}
	})
}

// TestShare (P2.2): the greatest, wherever it stands; the first error.
func TestShare(t *testing.T) {
	for _, x := range []struct {
		used, whole api.Vec
		want        int
		e           api.Errno
	}{
		{api.Vec{}, api.Vec{}, 0, api.OK},
		{api.Vec{}, api.Vec{1, 1, 1, 1, 1}, 0, api.OK},
		{api.Vec{1, 2, 3, 4, 5}, api.Vec{10, 10, 10, 10, 10}, 500, api.OK},
		{api.Vec{5, 4, 3, 2, 1}, api.Vec{10, 10, 10, 10, 10}, 500, api.OK},
		{api.Vec{1, 1, 2, 1, 1}, api.Vec{3, 3, 3, 3, 3}, 666, api.OK},
		{api.Vec{0, 0, 0, 3, 0}, api.Vec{0, 0, 0, 2, 0}, 1500, api.OK},
		{api.Vec{most, 1}, api.Vec{1, 1}, most * 1000, api.OK},
		{api.Vec{1, 0, 0, 0, 1}, api.Vec{1, 0, 0, 0, 0}, 0, api.ErrArg},
		{api.Vec{1, 0, 0, 0, -1}, api.Vec{1, 1, 1, 1, 1}, 0, api.ErrArg},
		{api.Vec{1, 1, most + 1}, api.Vec{1, 1, 1, 1, 1}, 0, api.ErrOver},
		{api.Vec{1, 1, 1}, api.Vec{1, 1, most + 1}, 0, api.ErrOver},
		{api.Vec{most + 1, 1}, api.Vec{1, 0}, 0, api.ErrOver},
		{api.Vec{1, most + 1}, api.Vec{0, 1}, 0, api.ErrArg},
	} {
		if n, e := vec.Share(x.used, x.whole); n != x.want || e != x.e {
			t.Errorf("Share(%v, %v): %d, %d, not %d, %d", x.used, x.whole, n, e, x.want, x.e)
		}
	}
}

// TestShareIsQuants (P2.2): held against quant.Share of each place, at each bound.
func TestShareIsQuants(t *testing.T) {
	whole := api.Vec{5, 0, most, 1000, 7}
	eachRow(some, func(v api.Vec) {
		for _, x := range [][2]api.Vec{{v, whole}, {whole, v}} {
			shares, wantE := wantRow(func(i int) (int, api.Errno) { return quant.Share(x[0][i], x[1][i]) })
			if n, e := vec.Share(x[0], x[1]); n != slices.Max(shares[:]) || e != wantE {
				t.Errorf("Share(%v, %v): %d, %d, not %v, %d", x[0], x[1], n, e, shares, wantE)
			}
		}
	})
}

// TestFitsFollows (P2.4): what fits in what fits, fits; Over is 0 just if a row fits.
func TestFitsFollows(t *testing.T) {
	var rows []api.Vec
	eachRow([]int{0, 2, 3, most}, func(v api.Vec) { rows = append(rows, v) })
	for _, a := range rows {
		for _, b := range rows {
			if vec.Fits(a, b) != (vec.Over(a, b) == 0) {
				t.Fatalf("%v in %v: %v, over by %d", a, b, vec.Fits(a, b), vec.Over(a, b))
			}
			if !vec.Fits(a, b) {
				continue
			}
			for _, c := range rows {
				if vec.Fits(b, c) && !vec.Fits(a, c) {
					t.Fatalf("%v fits in %v, that in %v, but not the first one", a, b, c)
				}
			}
		}
	}
}
