package gaps_test

import (
	"slices"
	"testing"

	"dossier/api"
	"dossier/gaps"
)

// draw is numbers from a short rule.
type draw uint64

func (d *draw) below(n int) int {
	*d = *d*6364136223846793005 + 1442695040888963407
	return int(uint64(*d)>>33) % n
}

// box is a box of some sides whose numbers are from lo to lo + wide - 1.
func (d *draw) box(sides, lo, wide int) api.Box {
	b := api.Box{}
	for range sides {
		from, to := lo+d.below(wide), lo+d.below(wide)
		b.Lo, b.Hi = append(b.Lo, min(from, to)), append(b.Hi, max(from, to))
	}
	return b
}

// large is a box of sides that mostly reach from the first number or to the last.
func (d *draw) large(sides, lo, wide int) api.Box {
	b := d.box(sides, lo, wide)
	for i := range sides {
		switch d.below(4) {
		case 0:
			b.Lo[i] = lo
		case 1:
			b.Hi[i] = lo + wide - 1
		case 2:
			b.Lo[i], b.Hi[i] = lo, lo+wide-1
		}
	}
	return b
}

// points is all points of a box, in order.
func points(b api.Box) [][]int {
	l := [][]int{nil}
	for side := range b.Lo {
		var next [][]int
		for _, p := range l {
			for x := b.Lo[side]; x <= b.Hi[side]; x++ {
				next = append(next, append(slices.Clone(p), x))
			}
		}
		l = next
	}
	return l
}

func holds(b api.Box, p []int) bool {
	for i, x := range p {
		if x < b.Lo[i] || b.Hi[i] < x {
			return false
		}
	}
	return true
}

// holeByBook asks one point of the whole behind the other.
func holeByBook(l []api.Box, whole api.Box) []int {
	for _, p := range points(whole) {
		if !slices.ContainsFunc(l, func(b api.Box) bool { return holds(b, p) }) {
			return p
		}
	}
	return nil
}

// overlapByBook asks each point of each box of each other box.
func overlapByBook(l []api.Box) (int, int, bool) {
	for i := range l {
		for k := i + 1; k < len(l); k++ {
			for _, p := range points(l[i]) {
				if holds(l[k], p) {
					return i, k, true
				}
			}
		}
	}
	return 0, 0, false
}

func byBook(t *testing.T, l []api.Box, whole api.Box) {
	t.Helper()
	hole(t, l, whole, holeByBook(l, whole))
	i, k, ok := overlapByBook(l)
	overlap(t, l, i, k, ok)
}

// All rows of up to three boxes of one side of four numbers, in each whole.
func TestAllShortRows(t *testing.T) {
	var all []api.Box
	for lo := range 4 {
		for hi := lo; hi < 4; hi++ {
			all = append(all, box(lo, hi))
		}
	}
	for _, whole := range all {
		byBook(t, nil, whole)
		for _, a := range all {
			byBook(t, pile(a), whole)
			for _, b := range all {
				byBook(t, pile(a, b), whole)
				for _, c := range all {
					byBook(t, pile(a, b, c), whole)
				}
			}
		}
	}
}

// All pairs of boxes of two sides of three numbers, in the whole.
func TestAllPairsOfTwoSides(t *testing.T) {
	var all []api.Box
	for _, p := range points(box(0, 2, 0, 2, 0, 2)) {
		for hi := range 3 {
			if p[0] <= p[1] && p[2] <= hi {
				all = append(all, box(p[0], p[1], p[2], hi))
			}
		}
	}
	for _, a := range all {
		for _, b := range all {
			byBook(t, pile(a, b), box(0, 2, 0, 2))
			byBook(t, pile(a, b), box(1, 1, 0, 2))
			byBook(t, pile(a, b, box(0, 0, 0, 2)), box(0, 2, 0, 2))
		}
	}
}

// Drawn boxes, at nought and at MaxPoint, that leave holes and that do not.
func TestDrawnBoxes(t *testing.T) {
	d := draw(9)
	full, holes, met, apart := 0, 0, 0, 0
	for range 20000 {
		n, wide := 1+d.below(api.MaxDims), 2+d.below(5)
		lo := row(0, 3, most+1-wide)[d.below(3)]
		whole := d.large(n, lo, wide)
		l := make([]api.Box, d.below(api.MaxBoxes+1))
		for i := range l {
			if d.below(2) == 0 {
				l[i] = d.large(n, lo, wide)
			} else {
				l[i] = d.box(n, lo, wide)
			}
		}
		byBook(t, l, whole)
		if _, ok := gaps.Hole(l, whole); ok {
			holes++
		} else {
			full++
		}
		if _, _, ok := gaps.Overlap(l); ok {
			met++
		} else {
			apart++
		}
	}
	if min(full, holes, met, apart) < 1000 {
		t.Error(full, holes, met, apart)
	}
}
