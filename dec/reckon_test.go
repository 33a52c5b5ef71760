package dec_test

import (
	"math"
	"math/big"
	"testing"

	"dossier/api"
	"dossier/dec"
)

type reckon func(a, b api.Dec) (api.Dec, api.Errno)

type reckoned struct {
	a, b, want api.Dec
	e          api.Errno
}

func checkReckon(t *testing.T, name string, f reckon, all []reckoned) {
	t.Helper()
	for _, x := range all {
		if v, e := f(x.a, x.b); v != x.want || e != x.e {
			t.Errorf("%s(%v, %v) = %v, %d", name, x.a, x.b, v, e)
		}
	}
}

// P1.2
func TestAdd(t *testing.T) {
	checkReckon(t, "Add", dec.Add, []reckoned{
		{d(1, 0), d(2, 0), d(3, 0), api.OK},
		{d(15, 1), d(25, 2), d(175, 2), api.OK},
		{d(25, 2), d(15, 1), d(175, 2), api.OK},
		{d(15, 1), d(5, 1), d(2, 0), api.OK},
		{d(-15, 1), d(5, 1), d(-1, 0), api.OK},
		{d(-15, 1), d(15, 1), d(0, 0), api.OK},
		{d(1, 4), d(-2, 4), d(-1, 4), api.OK},
		{d(999999999, 4), d(1, 4), d(100000, 0), api.OK},
		{d(999999999, 4), d(6, 4), d(100000, 0), api.OK},
		{d(999999999, 4), d(7, 4), d(100000001, 3), api.OK},
		{d(999999999, 4), d(999999999, 4), d(200000, 0), api.OK},
		{d(1000000000, 0), d(1, 4), d(1000000000, 0), api.OK},
		{d(1000000000, 0), d(5, 1), d(1000000000, 0), api.OK},
		{d(1000000000, 0), d(5001, 4), api.Dec{}, api.ErrOver},
		{d(1000000000, 0), d(6, 1), api.Dec{}, api.ErrOver},
		{d(1000000000, 0), d(1, 0), api.Dec{}, api.ErrOver},
		{d(1000000000, 0), d(1000000000, 0), api.Dec{}, api.ErrOver},
		{d(-1000000000, 0), d(-5, 1), d(-1000000000, 0), api.OK},
		{d(-1000000000, 0), d(-1, 0), api.Dec{}, api.ErrOver},
		{d(-1000000000, 0), d(1000000000, 0), d(0, 0), api.OK},
		{d(123456789, 0), d(5, 1), d(123456790, 0), api.OK},
	})
}

// P1.2
func TestSub(t *testing.T) {
	checkReckon(t, "Sub", dec.Sub, []reckoned{
		{d(3, 0), d(2, 0), d(1, 0), api.OK},
		{d(2, 0), d(3, 0), d(-1, 0), api.OK},
		{d(1, 0), d(1, 4), d(9999, 4), api.OK},
		{d(1, 4), d(1, 0), d(-9999, 4), api.OK},
		{d(1, 1), d(1, 1), d(0, 0), api.OK},
		{d(-1, 1), d(-11, 1), d(1, 0), api.OK},
		{d(1000000000, 0), d(1000000000, 0), d(0, 0), api.OK},
		{d(1000000000, 0), d(-5, 1), d(1000000000, 0), api.OK},
		{d(1000000000, 0), d(-1, 0), api.Dec{}, api.ErrOver},
		{d(-1000000000, 0), d(5, 1), d(-1000000000, 0), api.OK},
		{d(-1000000000, 0), d(1, 0), api.Dec{}, api.ErrOver},
		{d(-1000000000, 0), d(1000000000, 0), api.Dec{}, api.ErrOver},
		{d(-999999999, 4), d(999999999, 4), d(-200000, 0), api.OK},
	})
}

// P1.2
func TestMul(t *testing.T) {
	checkReckon(t, "Mul", dec.Mul, []reckoned{
		{d(6, 0), d(7, 0), d(42, 0), api.OK},
		{d(15, 1), d(15, 1), d(225, 2), api.OK},
		{d(25, 1), d(4, 0), d(10, 0), api.OK},
		{d(-7, 0), d(5, 1), d(-35, 1), api.OK},
		{d(-7, 0), d(-5, 1), d(35, 1), api.OK},
		{d(0, 0), d(-999999999, 4), d(0, 0), api.OK},
		{d(1, 4), d(5, 1), d(0, 0), api.OK},
		{d(3, 4), d(5, 1), d(2, 4), api.OK},
		{d(-3, 4), d(5, 1), d(-2, 4), api.OK},
		{d(5, 4), d(5, 1), d(2, 4), api.OK},
		{d(1, 4), d(1, 4), d(0, 0), api.OK},
		{d(99, 4), d(99, 4), d(1, 4), api.OK},
		{d(1000000000, 0), d(1, 0), d(1000000000, 0), api.OK},
		{d(1000000000, 0), d(-1, 0), d(-1000000000, 0), api.OK},
		{d(1000000000, 0), d(1, 4), d(100000, 0), api.OK},
		{d(1000000000, 0), d(1000000000, 0), api.Dec{}, api.ErrOver},
		{d(-1000000000, 0), d(-1000000000, 0), api.Dec{}, api.ErrOver},
		{d(-1000000000, 0), d(1000000000, 0), api.Dec{}, api.ErrOver},
		{d(1000000000, 0), d(999999999, 4), api.Dec{}, api.ErrOver},
		{d(999999999, 4), d(999999999, 4), api.Dec{}, api.ErrOver},
		{d(31622, 0), d(31622, 0), d(999950884, 0), api.OK},
		{d(31623, 0), d(31623, 0), api.Dec{}, api.ErrOver},
	})
}

// P1.2
func TestDiv(t *testing.T) {
	checkReckon(t, "Div", dec.Div, []reckoned{
		{d(6, 0), d(3, 0), d(2, 0), api.OK},
		{d(1, 0), d(3, 0), d(3333, 4), api.OK},
		{d(2, 0), d(3, 0), d(6667, 4), api.OK},
		{d(-2, 0), d(3, 0), d(-6667, 4), api.OK},
		{d(2, 0), d(-3, 0), d(-6667, 4), api.OK},
		{d(-2, 0), d(-3, 0), d(6667, 4), api.OK},
		{d(1, 0), d(-4, 0), d(-25, 2), api.OK},
		{d(75, 1), d(25, 2), d(30, 0), api.OK},
		{d(0, 0), d(-3, 0), d(0, 0), api.OK},
		{d(1, 0), d(20000, 0), d(0, 0), api.OK},
		{d(3, 0), d(20000, 0), d(2, 4), api.OK},
		{d(5, 0), d(20000, 0), d(2, 4), api.OK},
		{d(-1, 0), d(20000, 0), d(0, 0), api.OK},
		{d(3, 0), d(-20000, 0), d(-2, 4), api.OK},
		{d(-5, 0), d(20000, 0), d(-2, 4), api.OK},
		{d(1, 0), d(19999, 0), d(1, 4), api.OK},
		{d(1, 0), d(20001, 0), d(0, 0), api.OK},
		{d(1, 4), d(1000000000, 0), d(0, 0), api.OK},
		{d(1000000000, 0), d(1, 0), d(1000000000, 0), api.OK},
		{d(1000000000, 0), d(999999999, 0), d(1, 0), api.OK},
		{d(1000000000, 0), d(1, 4), api.Dec{}, api.ErrOver},
		{d(-1000000000, 0), d(1, 4), api.Dec{}, api.ErrOver},
		{d(1000000000, 0), d(-9, 1), api.Dec{}, api.ErrOver},
		{d(999999999, 4), d(999999999, 4), d(1, 0), api.OK},
		{d(999999999, 4), d(1, 4), d(999999999, 0), api.OK},
		{d(1, 0), d(0, 0), api.Dec{}, api.ErrArg},
		{d(0, 0), d(0, 0), api.Dec{}, api.ErrArg},
		{d(-1000000000, 0), d(0, 0), api.Dec{}, api.ErrArg},
		{d(999999999, 0), d(2, 0), d(500000000, 0), api.OK},
	})
}

// P1.2: what is made to fit is the quotient in ten-thousandths: of
// 557320403.49997 it is 557320403.5, of 475488564.50002 it is 475488564.5.
func TestDivRoundsFirst(t *testing.T) {
	checkReckon(t, "Div", dec.Div, []reckoned{
		{d(1000000000, 0), d(17943, 4), d(557320404, 0), api.OK},
		{d(1000000000, 0), d(-17943, 4), d(-557320404, 0), api.OK},
		{d(1000000000, 0), d(21031, 4), d(475488564, 0), api.OK},
		{d(-1000000000, 0), d(21031, 4), d(-475488564, 0), api.OK},
	})
}

// P1.2
func TestReckonsAgainstRationals(t *testing.T) {
	all := sample(150)
	for _, a := range all {
		for _, b := range all {
			x, y := rat(a), rat(b)
			checkAgainst(t, "Add", dec.Add, a, b, new(big.Rat).Add(x, y))
			checkAgainst(t, "Sub", dec.Sub, a, b, new(big.Rat).Sub(x, y))
			checkAgainst(t, "Mul", dec.Mul, a, b, new(big.Rat).Mul(x, y))
			if b.M != 0 {
				q := nearest(new(big.Rat).Mul(new(big.Rat).Quo(x, y), big.NewRat(10000, 1)))
				checkAgainst(t, "Div", dec.Div, a, b, new(big.Rat).SetFrac(q, big.NewInt(10000)))
			}
			if n := dec.Cmp(a, b); n != x.Cmp(y) {
				t.Errorf("Cmp(%v, %v) = %d", a, b, n)
			}
		}
	}
}

func checkAgainst(t *testing.T, name string, f reckon, a, b api.Dec, x *big.Rat) {
	t.Helper()
	want, e := fitted(x, 4)
	v, g := f(a, b)
	if v != want || g != e {
		t.Errorf("%s(%v, %v) = %v, %d, not %v, %d", name, a, b, v, g, want, e)
	}
	if !dec.Is(v) {
		t.Errorf("%s(%v, %v) = %v may not be", name, a, b, v)
	}
}

// P1.2
func TestCmp(t *testing.T) {
	for _, x := range []struct {
		a, b api.Dec
		want int
	}{
		{d(0, 0), d(0, 0), 0},
		{d(1, 0), d(1, 0), 0},
		{d(1, 0), d(2, 0), -1},
		{d(2, 0), d(1, 0), 1},
		{d(1, 0), d(11, 1), -1},
		{d(11, 1), d(1, 0), 1},
		{d(9, 1), d(1, 0), -1},
		{d(-1, 0), d(-11, 1), 1},
		{d(-1, 4), d(0, 0), -1},
		{d(0, 0), d(-1, 4), 1},
		{d(-1, 0), d(1, 4), -1},
		{d(1000000000, 0), d(999999999, 0), 1},
		{d(1000000000, 0), d(999999999, 4), 1},
		{d(-1000000000, 0), d(-999999999, 4), -1},
		{d(-1000000000, 0), d(1000000000, 0), -1},
		{d(123456789, 4), d(123456788, 4), 1},
		{d(123456789, 4), d(123456789, 4), 0},
	} {
		if n := dec.Cmp(x.a, x.b); n != x.want {
			t.Errorf("Cmp(%v, %v) = %d", x.a, x.b, n)
		}
	}
}

// P1.2
func TestFloorCeil(t *testing.T) {
	for _, x := range []struct{ v, floor, ceil api.Dec }{
		{d(0, 0), d(0, 0), d(0, 0)},
		{d(7, 0), d(7, 0), d(7, 0)},
		{d(-7, 0), d(-7, 0), d(-7, 0)},
		{d(10, 0), d(10, 0), d(10, 0)},
		{d(15, 1), d(1, 0), d(2, 0)},
		{d(-15, 1), d(-2, 0), d(-1, 0)},
		{d(1, 4), d(0, 0), d(1, 0)},
		{d(-1, 4), d(-1, 0), d(0, 0)},
		{d(9999, 4), d(0, 0), d(1, 0)},
		{d(-9999, 4), d(-1, 0), d(0, 0)},
		{d(99999, 1), d(9999, 0), d(10000, 0)},
		{d(-99999, 1), d(-10000, 0), d(-9999, 0)},
		{d(100001, 4), d(10, 0), d(11, 0)},
		{d(999999999, 1), d(99999999, 0), d(100000000, 0)},
		{d(999999999, 4), d(99999, 0), d(100000, 0)},
		{d(-999999999, 4), d(-100000, 0), d(-99999, 0)},
		{d(1000000000, 0), d(1000000000, 0), d(1000000000, 0)},
		{d(-1000000000, 0), d(-1000000000, 0), d(-1000000000, 0)},
	} {
		if f, c := dec.Floor(x.v), dec.Ceil(x.v); f != x.floor || c != x.ceil {
			t.Errorf("Floor, Ceil of %v = %v, %v", x.v, f, c)
		}
	}
}

// P1.2
func TestFloorCeilAround(t *testing.T) {
	one := d(1, 0)
	for _, v := range sample(2000) {
		f, c := dec.Floor(v), dec.Ceil(v)
		if f.S != 0 || c.S != 0 || !dec.Is(f) || !dec.Is(c) {
			t.Errorf("Floor, Ceil of %v = %v, %v", v, f, c)
		}
		if dec.Cmp(f, v) > 0 || rat(v).Cmp(new(big.Rat).Add(rat(f), rat(one))) >= 0 {
			t.Errorf("Floor(%v) = %v", v, f)
		}
		if dec.Cmp(c, v) < 0 || rat(v).Cmp(new(big.Rat).Sub(rat(c), rat(one))) <= 0 {
			t.Errorf("Ceil(%v) = %v", v, c)
		}
	}
}

// W1, W3: nothing is said of decimals that may not be, but that each call ends
// without a panic, and that an error comes alone.
func TestNoDecimals(t *testing.T) {
	odd := []int{math.MinInt, math.MinInt + 1, -fitM, -1000000001, -10, -1, 0, 1, 4, 5, 9, 10, 18, 19, 63, 64, 1000000001, fitM, math.MaxInt}
	var all []api.Dec
	for _, m := range odd {
		for _, s := range odd {
			all = append(all, d(m, s))
		}
	}
	for _, a := range all {
		dec.Floor(a)
		dec.Ceil(a)
		dec.Text(a)
		for _, b := range all {
			dec.Cmp(a, b)
			for i, f := range []reckon{dec.Add, dec.Sub, dec.Mul, dec.Div} {
				if v, e := f(a, b); e != api.OK && v != (api.Dec{}) {
					t.Fatal(i, a, b, v, e)
				}
			}
		}
	}
}
