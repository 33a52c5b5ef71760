// Package dec is decimals: see DOC.md, chapter 1.
package dec

import (
	"strconv"
	"strings"

	"dossier/api"
)

const (
	fitM      = 1000000000000000000 // what Fit takes, at both signs
	fitS      = 8
	maxDigits = 18 // of a text; so many can't leave what Fit takes
)

// Is tells whether a decimal may be.
func Is(d api.Dec) bool {
	if !holds(d.M) || d.S < 0 || d.S > api.MaxScale {
		return false
	}
	return d.S == 0 || d.M%10 != 0
}

// Fit is the decimal nearest to m by 10^s that can be held, with as many
// digits behind the point as go in.
func Fit(m, s int) (api.Dec, api.Errno) {
	if m < -fitM || m > fitM || s < 0 || s > fitS {
		return api.Dec{}, api.ErrArg
	}
	for t := min(s, api.MaxScale); t >= 0; t-- {
		// Always from m itself: rounding what was rounded would go astray.
		if r := halfEven(m, power(s-t)); holds(r) {
			return trim(r, t), api.OK
		}
	}
	return api.Dec{}, api.ErrOver
}

// Add is a sum.
func Add(a, b api.Dec) (api.Dec, api.Errno) {
	if !Is(a) || !Is(b) {
		return api.Dec{}, api.ErrArg
	}
	x, y, s := align(a, b)
	return Fit(x+y, s)
}

// Sub is a difference.
func Sub(a, b api.Dec) (api.Dec, api.Errno) {
	if !Is(a) || !Is(b) {
		return api.Dec{}, api.ErrArg
	}
	x, y, s := align(a, b)
	return Fit(x-y, s)
}

// Mul is a product.
func Mul(a, b api.Dec) (api.Dec, api.Errno) {
	if !Is(a) || !Is(b) {
		return api.Dec{}, api.ErrArg
	}
	return Fit(a.M*b.M, a.S+b.S)
}

// Div is a quotient, of at most four digits behind the point.
func Div(a, b api.Dec) (api.Dec, api.Errno) {
	if !Is(a) || !Is(b) || b.M == 0 {
		return api.Dec{}, api.ErrArg
	}
	const places = 4
	n, d := a.M*power(places+b.S-a.S), b.M
	if d < 0 {
		n, d = -n, -d
	}
	return Fit(halfEven(n, d), places)
}

// Cmp is -1, 0, 1.
func Cmp(a, b api.Dec) int {
	if !Is(a) || !Is(b) {
		return 0
	}
	x, y, _ := align(a, b)
	switch {
	case x < y:
		return -1
	case x > y:
		return 1
	}
	return 0
}

// Floor is the greatest whole number that is not above.
func Floor(d api.Dec) api.Dec {
	if !Is(d) {
		return api.Dec{}
	}
	return api.Dec{M: floor(d.M, power(d.S))}
}

// Ceil is the least whole number that is not below.
func Ceil(d api.Dec) api.Dec {
	if !Is(d) {
		return api.Dec{}
	}
	return api.Dec{M: -floor(-d.M, power(d.S))}
}

// Text is a decimal as digits.
func Text(d api.Dec) string {
	if !Is(d) {
		return ""
	}
	sign, m := "", d.M
	if m < 0 {
		sign, m = "-", -m
	}
	if d.S == 0 {
		return sign + strconv.Itoa(m)
	}
	p := power(d.S)
	behind := strconv.Itoa(m % p)
	noughts := strings.Repeat("0", d.S-len(behind))
	return sign + strconv.Itoa(m/p) + "." + noughts + behind
}

// Parse is digits as a decimal.
func Parse(s string) (api.Dec, api.Errno) {
	rest, below := strings.CutPrefix(s, "-")
	whole, behind, point := strings.Cut(rest, ".")
	if !digits(whole) || point && !digits(behind) {
		return api.Dec{}, api.ErrForm
	}
	if len(whole)+len(behind) > maxDigits || len(behind) > fitS {
		return api.Dec{}, api.ErrOver
	}
	m := number(whole)*power(len(behind)) + number(behind)
	if below {
		m = -m
	}
	return Fit(m, len(behind))
}

// holds tells whether a decimal's M may be m.
func holds(m int) bool { return m >= -api.MaxM && m <= api.MaxM }

// power is 10^n; n is at most 8 in this package.
func power(n int) int {
	p := 1
	for range n {
		p *= 10
	}
	return p
}

// align is both decimals as whole numbers of one scale, the greater one of theirs.
func align(a, b api.Dec) (x, y, s int) {
	s = max(a.S, b.S)
	return a.M * power(s-a.S), b.M * power(s-b.S), s
}

// halfEven is n by d, rounded half to even; d is above nought.
func halfEven(n, d int) int {
	q := floor(n, d)
	r := n - q*d
	if r > d-r || r == d-r && q%2 != 0 {
		q++
	}
	return q
}

// floor is the greatest whole number not above n by d; d is above nought.
func floor(n, d int) int {
	q := n / d
	if n%d < 0 {
		q--
	}
	return q
}

// trim takes off the noughts at the end, so that one value has one decimal.
func trim(m, s int) api.Dec {
	for s > 0 && m%10 == 0 {
		m, s = m/10, s-1
	}
	return api.Dec{M: m, S: s}
}

// digits tells whether s is one or more digits.
func digits(s string) bool {
	for i := range len(s) {
		if s[i] < '0' || s[i] > '9' {
			return false
		}
	}
	return s != ""
}

// number is what the digits s say, nought if there are none.
func number(s string) int {
	n := 0
	for i := range len(s) {
		n = n*10 + int(s[i]-'0')
	}
	return n
}
