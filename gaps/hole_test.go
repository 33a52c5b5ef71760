package gaps_test

import (
	"slices"
	"testing"

	"dossier/api"
	"dossier/gaps"
)

// pile is a list of boxes.
func pile(l ...api.Box) []api.Box { return l }

func hole(t *testing.T, l []api.Box, whole api.Box, want []int) {
	t.Helper()
	p, ok := gaps.Hole(l, whole)
	if ok != (want != nil) || !slices.Equal(p, want) {
		t.Errorf("%v in %v: %v, %v; not %v", l, whole, p, ok, want)
	}
}

func overlap(t *testing.T, l []api.Box, wantI, wantK int, want bool) {
	t.Helper()
	i, k, ok := gaps.Overlap(l)
	if i != wantI || k != wantK || ok != want {
		t.Errorf("%v: %d, %d, %v; not %d, %d, %v", l, i, k, ok, wantI, wantK, want)
	}
}

func TestHoleOfOneSide(t *testing.T) {
	for _, x := range []struct {
		l     []api.Box
		whole api.Box
		want  []int
	}{
		{nil, box(0, 9), row(0)}, {pile(), box(3, 9), row(3)}, {nil, box(most, most), row(most)},
		{pile(box(3, 9)), box(3, 9), nil}, {pile(box(5, 5)), box(5, 5), nil},
		{pile(box(0, 3), box(5, 9)), box(0, 9), row(4)}, {pile(box(5, 9), box(0, 3)), box(0, 9), row(4)}, {pile(box(0, 4), box(5, 9)), box(0, 9), nil},
		{pile(box(1, 9)), box(0, 9), row(0)}, {pile(box(0, 8)), box(0, 9), row(9)}, {pile(box(4, 5)), box(0, 9), row(0)},
		{pile(box(0, 1), box(3, 4), box(6, 7)), box(0, 9), row(2)}, {pile(box(6, 7), box(3, 4), box(0, 1)), box(0, 9), row(2)}, {pile(box(6, 7), box(3, 4), box(0, 2)), box(0, 9), row(5)},
		{pile(box(0, 5), box(2, 7)), box(0, 9), row(8)}, {pile(box(2, 7), box(0, 5), box(1, 1)), box(0, 9), row(8)}, {pile(box(0, 9), box(0, 9)), box(0, 9), nil},
		// beyond the whole
		{pile(box(0, most)), box(3, 9), nil}, {pile(box(0, 4), box(6, most)), box(3, 9), row(5)}, {pile(box(0, 2), box(10, most)), box(3, 9), row(3)},
		{pile(box(0, 3), box(9, most)), box(3, 9), row(4)}, {pile(box(0, 8), box(10, 11)), box(3, 9), row(9)}, {pile(box(0, 2)), box(4, 9), row(4)}, {pile(box(10, 11)), box(10, 11), nil},
		// up to MaxPoint
		{pile(box(0, most)), box(0, most), nil}, {pile(box(0, most-1)), box(0, most), row(most)}, {pile(box(1, most)), box(0, most), row(0)}, {pile(box(0, 499), box(501, most)), box(0, most), row(500)},
		{pile(box(0, most-1), box(most, most)), box(0, most), nil}, {pile(box(0, most)), box(most, most), nil}, {pile(box(0, most-1)), box(most, most), row(most)},
	} {
		hole(t, x.l, x.whole, x.want)
	}
}

func TestHoleOfMoreSides(t *testing.T) {
	for _, x := range []struct {
		l     []api.Box
		whole api.Box
		want  []int
	}{
		{nil, box(2, 9, 3, 9), row(2, 3)}, {nil, box(2, 9, 3, 9, 4, 9), row(2, 3, 4)}, {pile(box(2, 9, 3, 9)), box(2, 9, 3, 9), nil},
		{pile(box(0, 4, 0, 9), box(5, 9, 0, 9)), box(0, 9, 0, 9), nil}, {pile(box(0, 9, 0, 4), box(0, 9, 5, 9)), box(0, 9, 0, 9), nil},
		// the first number tells, ahead of the second
		{pile(box(1, 9, 0, 9)), box(0, 9, 0, 9), row(0, 0)}, {pile(box(0, 9, 1, 9)), box(0, 9, 0, 9), row(0, 0)}, {pile(box(0, 9, 0, 8)), box(0, 9, 0, 9), row(0, 9)}, {pile(box(0, 8, 0, 9)), box(0, 9, 0, 9), row(9, 0)},
		{pile(box(0, 2, 0, 9), box(3, 3, 2, 9)), box(0, 9, 0, 9), row(3, 0)}, {pile(box(0, 2, 0, 9), box(3, 9, 0, 7)), box(0, 9, 0, 9), row(3, 8)}, {pile(box(0, 9, 0, 2), box(0, 5, 3, 9)), box(0, 9, 0, 9), row(6, 3)},
		{pile(box(0, 9, 0, 4), box(0, 4, 5, 9)), box(0, 9, 0, 9), row(5, 5)}, {pile(box(0, 9, 0, 4), box(0, 4, 5, 9), box(5, 9, 5, 8)), box(0, 9, 0, 9), row(5, 9)},
		// a hole within
		{pile(box(0, 9, 0, 3), box(0, 9, 5, 9), box(0, 3, 4, 4), box(5, 9, 4, 4)), box(0, 9, 0, 9), row(4, 4)}, {pile(box(0, 9, 0, 3), box(0, 9, 5, 9), box(0, 4, 4, 4), box(5, 9, 4, 4)), box(0, 9, 0, 9), nil},
		{pile(box(0, 3, 0, 9), box(6, 9, 0, 9), box(4, 4, 0, 9), box(5, 5, 0, 6), box(5, 5, 8, 9)), box(0, 9, 0, 9), row(5, 7)},
		// beyond the whole
		{pile(box(0, most, 0, 4)), box(2, 3, 2, 7), row(2, 5)}, {pile(box(0, most, 0, most)), box(2, 3, 2, 7), nil}, {pile(box(0, 2, 0, most), box(0, most, 0, 2)), box(2, 3, 2, 7), row(3, 3)}, {pile(box(0, 1, 0, most), box(0, most, 0, 1)), box(2, 3, 2, 7), row(2, 2)},
		// three sides, up to MaxPoint
		{pile(box(0, most, 0, most, 0, most)), box(0, most, 0, most, 0, most), nil},
		{pile(box(0, most, 0, most, 0, most-1), box(0, most, 0, most-1, most, most), box(0, most-1, most, most, most, most)), box(0, most, 0, most, 0, most), row(most, most, most)},
		{pile(box(0, most, 0, most, 0, most-1), box(0, most, 0, most-1, most, most), box(0, most-1, most, most, most, most), box(most, most, most, most, most, most)), box(0, most, 0, most, 0, most), nil},
		{pile(box(1, most, 0, most, 0, most), box(0, 0, 1, most, 0, most), box(0, 0, 0, 0, 1, most)), box(0, most, 0, most, 0, most), row(0, 0, 0)},
		{pile(box(0, 1, 0, 9, 0, 9), box(2, 9, 0, 2, 0, 9), box(2, 2, 3, 9, 0, 5)), box(0, 9, 0, 9, 0, 9), row(2, 3, 6)},
		{pile(box(0, 4, 0, 9, 0, 9), box(6, 9, 0, 9, 0, 9), box(5, 5, 0, 6, 0, 9), box(5, 5, 8, 9, 0, 9), box(5, 5, 7, 7, 0, 1), box(5, 5, 7, 7, 3, 9)), box(0, 9, 0, 9, 0, 9), row(5, 7, 2)},
	} {
		hole(t, x.l, x.whole, x.want)
	}
}

// Boxes that part the whole along one side leave no hole; without one of them
// the hole is that one's first point. As many as may be, in any order.
func TestHoleOfParts(t *testing.T) {
	for n := 1; n <= api.MaxDims; n++ {
		for side := range n {
			for _, lo := range row(0, 17) {
				whole := sides(n, lo, most)
				var parts []api.Box
				for i := range api.MaxBoxes {
					b := sides(n, lo, most)
					b.Lo[side] = lo + i*100
					if i+1 < api.MaxBoxes {
						b.Hi[side] = b.Lo[side] + 99
					}
					parts = append(parts, b)
				}
				hole(t, parts, whole, nil)
				slices.Reverse(parts)
				hole(t, parts, whole, nil)
				for i, b := range parts {
					hole(t, slices.Delete(slices.Clone(parts), i, i+1), whole, b.Lo)
					smaller := slices.Clone(b.Lo)
					smaller[side]++
					parts[i] = api.Box{Lo: smaller, Hi: b.Hi}
					hole(t, parts, whole, b.Lo)
					parts[i] = b
				}
			}
		}
	}
}

func TestOverlap(t *testing.T) {
	overlap(t, nil, 0, 0, false)
	overlap(t, pile(), 0, 0, false)
	overlap(t, pile(box(0, most)), 0, 0, false)
	overlap(t, pile(box(0, 5), box(5, 9)), 0, 1, true)
	overlap(t, pile(box(5, 9), box(0, 5)), 0, 1, true)
	overlap(t, pile(box(0, 4), box(5, 9)), 0, 0, false)
	overlap(t, pile(box(5, 9), box(0, 4)), 0, 0, false)
	overlap(t, pile(box(3, 7), box(3, 7)), 0, 1, true)
	overlap(t, pile(box(0, 9), box(4, 4)), 0, 1, true)
	overlap(t, pile(box(4, 4), box(0, 9)), 0, 1, true)
	overlap(t, pile(box(0, 0), box(0, 0)), 0, 1, true)
	overlap(t, pile(box(most, most), box(0, most)), 0, 1, true)
	overlap(t, pile(box(0, most-1), box(most, most)), 0, 0, false)
	// the first i, though another pair has a lesser k
	overlap(t, pile(box(0, 3), box(5, 6), box(6, 7), box(3, 3)), 0, 3, true)
	overlap(t, pile(box(0, 0), box(5, 6), box(6, 7), box(5, 5)), 1, 2, true)
	overlap(t, pile(box(0, 0), box(5, 6), box(7, 8), box(8, 9), box(6, 6)), 1, 4, true)
	overlap(t, pile(box(0, 0), box(1, 1), box(2, 2), box(2, 3)), 2, 3, true)
	// each side
	overlap(t, pile(box(0, 5, 0, 5), box(5, 9, 6, 9)), 0, 0, false)
	overlap(t, pile(box(0, 5, 0, 5), box(6, 9, 5, 9)), 0, 0, false)
	overlap(t, pile(box(0, 5, 0, 5), box(5, 9, 5, 9)), 0, 1, true)
	overlap(t, pile(box(5, 9, 5, 9), box(0, 5, 0, 5)), 0, 1, true)
	overlap(t, pile(box(0, 9, 4, 5), box(4, 5, 0, 9)), 0, 1, true)
	for side := range api.MaxDims {
		for _, step := range row(0, 1) {
			a, b := sides(api.MaxDims, 10, 20), sides(api.MaxDims, 10, 20)
			b.Lo[side], b.Hi[side] = 20+step, most
			overlap(t, pile(a, b), 0, 1-step, step == 0)
			overlap(t, pile(b, a), 0, 1-step, step == 0)
		}
	}
}

// Of as many boxes as may be each pair is found, as the only one, and as the
// first one with another behind it.
func TestOverlapOfEachPair(t *testing.T) {
	for i := range api.MaxBoxes {
		for k := i + 1; k < api.MaxBoxes; k++ {
			l := make([]api.Box, api.MaxBoxes)
			for n := range l {
				l[n] = box(n*10, n*10+9, 0, most)
			}
			overlap(t, l, 0, 0, false)
			l[k].Lo[0], l[k].Hi[0] = i*10+9, i*10+9
			overlap(t, l, i, k, true)
			if k > i+1 && k+1 < len(l) {
				l[k+1].Lo[0] = l[i+1].Lo[0]
				l[k+1].Hi[0] = l[i+1].Lo[0]
				overlap(t, l, i, k, true)
			}
		}
	}
}
