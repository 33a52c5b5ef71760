package gaps_test

import (
	"fmt"
	"math"
	"testing"

	"dossier/api"
	"dossier/gaps"
)

const most = api.MaxPoint

// box is a box of sides: from, to, from, to ..
func box(l ...int) api.Box {
	b := api.Box{}
	for i := 0; i+1 < len(l); i += 2 {
		b.Lo, b.Hi = append(b.Lo, l[i]), append(b.Hi, l[i+1])
	}
	return b
}

// sides is a box of n alike sides.
func sides(n, lo, hi int) api.Box {
	b := api.Box{}
	for range n {
		b.Lo, b.Hi = append(b.Lo, lo), append(b.Hi, hi)
	}
	return b
}

func row(l ...int) []int { return l }

// wrong is boxes that may not be.
func wrong() []api.Box {
	return []api.Box{
		{}, {Lo: row(), Hi: row()}, {Lo: row(1)}, {Hi: row(1)}, {Lo: row(1), Hi: row(1, 2)}, {Lo: row(1, 1), Hi: row(2)}, {Lo: row(1, 2, 3), Hi: row(4, 5)},
		sides(api.MaxDims+1, 0, 1), sides(1<<16, 0, 0), sides(1<<16, 0, most), {Lo: make([]int, 1<<20), Hi: row(1)},
		box(-1, 1), box(0, 1, -1, 1), box(0, 1, 0, 1, -1, 0), box(-1, -1), box(math.MinInt, 0), box(math.MinInt, math.MaxInt),
		box(2, 1), box(0, 1, 2, 1), box(0, 1, 0, 1, 1, 0), box(most, 0), box(0, -1), box(math.MaxInt, math.MinInt),
		box(0, most+1), box(0, 1, 0, most+1), box(0, 1, 0, 1, 0, most+1), box(most+1, most+1), box(0, math.MaxInt), box(math.MaxInt, math.MaxInt),
	}
}

// right is boxes that may be.
func right() []api.Box {
	return []api.Box{
		box(0, 0), box(0, 1), box(1, 1), box(0, most), box(most, most), box(most-1, most), box(5, 700),
		box(0, 0, 0, 0), box(0, most, 0, most), box(most, most, 0, 0), box(0, 0, most, most), box(3, 4, 1, 9),
		box(0, 0, 0, 0, 0, 0), box(0, most, 0, most, 0, most), box(most, most, most, most, most, most), box(1, 2, 3, 4, 5, 6), box(5, 6, 3, 4, 1, 2),
	}
}

func TestIs(t *testing.T) {
	for _, b := range right() {
		if !gaps.Is(b) {
			t.Errorf("%v may not be", b)
		}
	}
	for i, b := range wrong() {
		if gaps.Is(b) {
			t.Errorf("%d may be", i)
		}
	}
	for n := range 6 {
		if gaps.Is(sides(n, 0, 1)) != (n >= 1 && n <= api.MaxDims) {
			t.Errorf("%d sides", n)
		}
	}
}

// Every side is asked, at its edges.
func TestIsOfEachSide(t *testing.T) {
	edges := row(-1, 0, 1, 2, most-1, most, most+1)
	for n := 1; n <= api.MaxDims; n++ {
		for at := range n {
			for _, lo := range edges {
				for _, hi := range edges {
					b := sides(n, 1, 2)
					b.Lo[at], b.Hi[at] = lo, hi
					if gaps.Is(b) != (0 <= lo && lo <= hi && hi <= most) {
						t.Errorf("%v: %v", b, gaps.Is(b))
					}
				}
			}
		}
	}
}

func TestIn(t *testing.T) {
	b := box(1, 3, 5, 5, 0, most)
	for _, x := range []struct {
		p    []int
		want bool
	}{
		{row(1, 5, 0), true}, {row(3, 5, 0), true}, {row(2, 5, most), true}, {row(2, 5, 500), true},
		{row(0, 5, 0), false}, {row(4, 5, 0), false}, {row(2, 4, 0), false}, {row(2, 6, 0), false}, {row(2, 5, -1), false}, {row(2, 5, most+1), false},
		{row(5, 1, 0), false}, {row(0, 4, -1), false}, {row(math.MinInt, 5, 0), false}, {row(2, 5, math.MaxInt), false},
		{nil, false}, {row(), false}, {row(2), false}, {row(2, 5), false}, {row(2, 5, 0, 0), false}, {make([]int, 1<<20), false},
	} {
		if gaps.In(b, x.p) != x.want {
			t.Errorf("%.9v: %v", x.p, !x.want)
		}
	}
}

// A point with all numbers within but one, at each end of each side.
func TestInOfEachSide(t *testing.T) {
	for _, b := range right() {
		for at := range b.Lo {
			for _, end := range row(b.Lo[at]-1, b.Lo[at], b.Lo[at]+1, b.Hi[at]-1, b.Hi[at], b.Hi[at]+1) {
				for _, p := range [][]int{append(row(), b.Lo...), append(row(), b.Hi...)} {
					p[at] = end
					if gaps.In(b, p) != (b.Lo[at] <= end && end <= b.Hi[at]) {
						t.Errorf("%v in %v: %v", p, b, gaps.In(b, p))
					}
				}
			}
		}
	}
}

// Of boxes that may not be nothing is said: they hold no point, no hole is
// told among them, and no two meet. Nor do too many, or of unlike sides.
func TestBoxesThatMayNotBe(t *testing.T) {
	one := box(0, 5)
	for i, b := range wrong() {
		if gaps.In(b, b.Lo) || gaps.In(b, b.Hi) || gaps.In(b, nil) || gaps.In(b, row(0)) {
			t.Errorf("%d has a point", i)
		}
		name := fmt.Sprint(i)
		noHole(t, name, nil, b)
		noHole(t, name, []api.Box{b}, b)
		noHole(t, name, []api.Box{b}, one)
		noHole(t, name, []api.Box{one, b}, box(0, 9))
		noOverlap(t, name, b, b)
		noOverlap(t, name, one, one, b)
		noOverlap(t, name, b, one, one)
	}
	many := make([]api.Box, api.MaxBoxes+1)
	for i := range many {
		many[i] = box(i, i)
	}
	noHole(t, "too many", many, box(0, most))
	many[0] = many[1]
	noOverlap(t, "too many", many...)
	noHole(t, "far too many", make([]api.Box, 1<<20), box(0, most))
	noOverlap(t, "far too many", make([]api.Box, 1<<20)...)
	noHole(t, "unlike", []api.Box{box(0, 0), box(1, 1, 1, 1)}, box(0, 9))
	noHole(t, "unlike", []api.Box{box(0, 0, 0, 0)}, box(0, 9))
	noHole(t, "unlike", []api.Box{box(0, 0)}, box(0, 9, 0, 9))
	noOverlap(t, "unlike", box(0, 1), box(0, 1, 0, 1))
	noOverlap(t, "unlike", box(0, 1, 0, 1), box(0, 1))
	noOverlap(t, "unlike", box(0, 1), box(0, 1), box(0, 1, 0, 1))
}

func noHole(t *testing.T, name string, l []api.Box, whole api.Box) {
	t.Helper()
	if p, ok := gaps.Hole(l, whole); ok || len(p) != 0 {
		t.Errorf("%s: %v, %v", name, p, ok)
	}
}

func noOverlap(t *testing.T, name string, l ...api.Box) {
	t.Helper()
	if i, k, ok := gaps.Overlap(l); ok || i != 0 || k != 0 {
		t.Errorf("%s: %d, %d, %v", name, i, k, ok)
	}
}
