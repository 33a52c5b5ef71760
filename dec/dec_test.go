package dec_test

import (
	"math"
	"math/big"
	"testing"

	"dossier/api"
	"dossier/dec"
)

const (
	fitM = 1000000000000000000
	fitS = 8
)

func d(m, s int) api.Dec { return api.Dec{M: m, S: s} }

// rat is a decimal's value, by another way than the package's.
func rat(v api.Dec) *big.Rat { return scaled(v.M, v.S) }

// scaled is m by 10^s.
func scaled(m, s int) *big.Rat {
	p := new(big.Int).Exp(big.NewInt(10), big.NewInt(int64(s)), nil)
	return new(big.Rat).SetFrac(big.NewInt(int64(m)), p)
}

// nearest is the whole number nearest to x, the even one where two are.
func nearest(x *big.Rat) *big.Int {
	low := new(big.Int).Div(x.Num(), x.Denom())
	high := new(big.Int).Add(low, big.NewInt(1))
	toLow := new(big.Rat).Sub(x, new(big.Rat).SetInt(low))
	toHigh := new(big.Rat).Sub(new(big.Rat).SetInt(high), x)
	switch toLow.Cmp(toHigh) {
	case -1:
		return low
	case 1:
		return high
	}
	if low.Bit(0) == 0 {
		return low
	}
	return high
}

// fitted is what Fit should make of x, looked for from t digits behind the point.
func fitted(x *big.Rat, t int) (api.Dec, api.Errno) {
	most := big.NewInt(1000000000)
	for ; t >= 0; t-- {
		n := nearest(new(big.Rat).Quo(x, scaled(1, t)))
		if n.CmpAbs(most) > 0 {
			continue
		}
		v := d(int(n.Int64()), t)
		for v.S > 0 && v.M%10 == 0 {
			v = d(v.M/10, v.S-1)
		}
		return v, api.OK
	}
	return api.Dec{}, api.ErrOver
}

// sample is decimals that may be: ordinary ones, the edges, and many others.
func sample(many int) []api.Dec {
	var all []api.Dec
	for _, m := range []int{0, 1, 2, 3, 4, 5, 6, 7, 9, 11, 15, 25, 99, 101, 9999, 10001, 19999, 20001, 99999999, 100000001, 333333333, 500000001, 999999994, 999999995, 999999999} {
		for s := range 5 {
			if v := d(m, s); m != 0 || s == 0 {
				all = append(all, v, d(-m, s))
			}
		}
	}
	for _, m := range []int{10, 20, 20000, 500000000, 999999990, 1000000000} {
		all = append(all, d(m, 0), d(-m, 0))
	}
	x := uint64(1)
	for range many {
		x = x*6364136223846793005 + 1442695040888963407
		m := int(x>>33) % 1000000001
		for range int(x>>20) % 9 {
			m /= 10
		}
		v := d(m, int(x>>24)%5)
		if x>>63 == 1 {
			v.M = -v.M
		}
		if v.S > 0 && v.M%10 == 0 {
			v.S = 0
		}
		all = append(all, v)
	}
	return all
}

func TestSampleMayBe(t *testing.T) {
	for _, v := range sample(2000) {
		if !dec.Is(v) {
			t.Error(v)
		}
	}
}

// P1.1
func TestIs(t *testing.T) {
	for _, x := range []struct {
		v    api.Dec
		want bool
	}{
		{d(0, 0), true},
		{d(7, 0), true},
		{d(-7, 0), true},
		{d(10, 0), true},
		{d(-10, 0), true},
		{d(1, 1), true},
		{d(-1, 4), true},
		{d(11, 4), true},
		{d(1000000000, 0), true},
		{d(-1000000000, 0), true},
		{d(999999999, 4), true},
		{d(-999999999, 4), true},
		{d(1000000001, 0), false},
		{d(-1000000001, 0), false},
		{d(1000000001, 1), false},
		{d(-1000000001, 4), false},
		{d(1000000000, 1), false},
		{d(0, 1), false},
		{d(0, 4), false},
		{d(10, 1), false},
		{d(-10, 1), false},
		{d(120, 4), false},
		{d(11, 5), false},
		{d(1, -1), false},
		{d(0, -1), false},
		{d(0, 5), false},
		{d(math.MaxInt, 0), false},
		{d(math.MinInt, 0), false},
		{d(math.MinInt, 1), false},
		{d(1, math.MaxInt), false},
		{d(1, math.MinInt), false},
	} {
		if got := dec.Is(x.v); got != x.want {
			t.Errorf("Is(%v) = %v", x.v, got)
		}
	}
}

// P1.1
func TestFit(t *testing.T) {
	for _, x := range []struct {
		m, s int
		want api.Dec
		e    api.Errno
	}{
		{0, 0, d(0, 0), api.OK},
		{7, 0, d(7, 0), api.OK},
		{25, 1, d(25, 1), api.OK},
		{-25, 1, d(-25, 1), api.OK},
		{12345, 4, d(12345, 4), api.OK},

		// noughts at the end
		{250, 1, d(25, 0), api.OK},
		{2500, 2, d(25, 0), api.OK},
		{2500, 3, d(25, 1), api.OK},
		{-2500, 3, d(-25, 1), api.OK},
		{2500, 0, d(2500, 0), api.OK},
		{1000, 2, d(10, 0), api.OK},
		{0, 4, d(0, 0), api.OK},
		{0, 8, d(0, 0), api.OK},

		// beyond MaxScale: half to even
		{123456, 5, d(12346, 4), api.OK},
		{123454, 5, d(12345, 4), api.OK},
		{15000, 8, d(2, 4), api.OK},
		{25000, 8, d(2, 4), api.OK},
		{24999, 8, d(2, 4), api.OK},
		{25001, 8, d(3, 4), api.OK},
		{35000, 8, d(4, 4), api.OK},
		{-15000, 8, d(-2, 4), api.OK},
		{-25000, 8, d(-2, 4), api.OK},
		{-24999, 8, d(-2, 4), api.OK},
		{-25001, 8, d(-3, 4), api.OK},
		{-35000, 8, d(-4, 4), api.OK},
		{5000, 8, d(0, 0), api.OK},
		{-5000, 8, d(0, 0), api.OK},
		{5001, 8, d(1, 4), api.OK},
		{-5001, 8, d(-1, 4), api.OK},
		{5, 5, d(0, 0), api.OK},
		{15, 5, d(2, 4), api.OK},
		{99995, 5, d(1, 0), api.OK},

		// from one digit behind the point to the next fewer
		{1000000000, 4, d(100000, 0), api.OK},
		{999999999, 4, d(999999999, 4), api.OK},
		{1000000001, 4, d(100000, 0), api.OK},
		{1000000009, 4, d(100000001, 3), api.OK},
		{9999999989, 4, d(999999999, 3), api.OK},
		{9999999995, 4, d(1000000, 0), api.OK},
		{99999999945, 4, d(999999999, 2), api.OK},
		{99999999995, 4, d(10000000, 0), api.OK},
		{1234567891234, 4, d(123456789, 0), api.OK},
		{123456789123, 4, d(123456789, 1), api.OK},
		{1234567894999, 4, d(123456789, 0), api.OK},
		{1234567895000, 4, d(123456790, 0), api.OK},
		{1234567885000, 4, d(123456788, 0), api.OK},
		{12345678949999999, 8, d(123456789, 0), api.OK},

		// just within, and just beyond what can be held
		{1000000000, 0, d(1000000000, 0), api.OK},
		{-1000000000, 0, d(-1000000000, 0), api.OK},
		{1000000001, 0, api.Dec{}, api.ErrOver},
		{-1000000001, 0, api.Dec{}, api.ErrOver},
		{10000000005, 1, d(1000000000, 0), api.OK},
		{10000000006, 1, api.Dec{}, api.ErrOver},
		{10000000015, 1, api.Dec{}, api.ErrOver},
		{-10000000005, 1, d(-1000000000, 0), api.OK},
		{-10000000006, 1, api.Dec{}, api.ErrOver},
		{100000000050000000, 8, d(1000000000, 0), api.OK},
		{100000000050000001, 8, api.Dec{}, api.ErrOver},
		{-100000000050000000, 8, d(-1000000000, 0), api.OK},
		{-100000000050000001, 8, api.Dec{}, api.ErrOver},

		// the edges of what is taken
		{fitM, 0, api.Dec{}, api.ErrOver},
		{-fitM, 0, api.Dec{}, api.ErrOver},
		{fitM, 8, api.Dec{}, api.ErrOver},
		{-fitM, 8, api.Dec{}, api.ErrOver},
		{fitM + 1, 0, api.Dec{}, api.ErrArg},
		{-fitM - 1, 0, api.Dec{}, api.ErrArg},
		{fitM + 1, 8, api.Dec{}, api.ErrArg},
		{-fitM - 1, 8, api.Dec{}, api.ErrArg},
		{1, 8, d(0, 0), api.OK},
		{1, 9, api.Dec{}, api.ErrArg},
		{1, -1, api.Dec{}, api.ErrArg},
		{0, 9, api.Dec{}, api.ErrArg},
		{0, -1, api.Dec{}, api.ErrArg},
		{math.MaxInt, 0, api.Dec{}, api.ErrArg},
		{math.MinInt, 0, api.Dec{}, api.ErrArg},
		{1, math.MaxInt, api.Dec{}, api.ErrArg},
		{1, math.MinInt, api.Dec{}, api.ErrArg},
		{fitM, 9, api.Dec{}, api.ErrArg},
		{fitM, -1, api.Dec{}, api.ErrArg},
		{2000000000, 9, api.Dec{}, api.ErrArg},
	} {
		if v, e := dec.Fit(x.m, x.s); v != x.want || e != x.e {
			t.Errorf("Fit(%d, %d) = %v, %d", x.m, x.s, v, e)
		}
	}
}

// P1.1: the steps of t are those of whole numbers, at every size of m and every s.
func TestFitAgainstRationals(t *testing.T) {
	check := func(m, s int) {
		want, e := fitted(scaled(m, s), min(s, 4))
		if v, g := dec.Fit(m, s); v != want || g != e {
			t.Errorf("Fit(%d, %d) = %v, %d, not %v, %d", m, s, v, g, want, e)
		}
	}
	x := uint64(7)
	for s := range fitS + 1 {
		for p := 1; p <= fitM/10; p *= 10 {
			for _, k := range []int{1, 2, 3, 4, 5, 6, 9, 10} {
				for _, off := range []int{-6, -5, -4, -1, 0, 1, 4, 5, 6, p / 2, -p / 2, p / 20, -p / 20} {
					if m := k*p + off; m <= fitM {
						check(m, s)
						check(-m, s)
					}
				}
			}
		}
		for range 2000 {
			x = x*6364136223846793005 + 1442695040888963407
			m := int(x>>1) % (fitM + 1)
			for range int(x>>13) % 18 {
				m /= 10
			}
			check(m, s)
			check(-m, s)
		}
	}
}
