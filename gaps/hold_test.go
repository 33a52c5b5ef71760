package gaps_test

import (
	"fmt"
	"slices"
	"strings"
	"testing"

	"dossier/api"
	"dossier/gaps"
)

// roomy is a list with something in the spare room behind its end.
func roomy[T any](spare T, l ...T) []T {
	return append(slices.Clone(l), spare, spare)[: len(l) : len(l)+2]
}

func roomyBox(b api.Box) api.Box {
	return api.Box{Lo: roomy(7, b.Lo...), Hi: roomy(7, b.Hi...)}
}

// roomyBoxes is boxes with spare room behind all lists; what stands there
// would fill each hole and meet each box.
func roomyBoxes(l ...api.Box) []api.Box {
	all := make([]api.Box, len(l))
	for i, b := range l {
		all[i] = roomyBox(b)
	}
	return roomy(sides(2, 0, most), all...)
}

func roomyTable() api.Table {
	x := sheet(2)
	for _, c := range []string{"1;-", "< 5;[1..3)", "(2..9];0"} {
		x.Rules = append(x.Rules, api.Rule{Cells: roomy("x", strings.Split(c, ";")...)})
	}
	x.In = roomy("+", x.In...)
	x.Rules = roomy(api.Rule{Cells: []string{"x", "y"}}, x.Rules...)
	x.Order = roomy(api.Val{Kind: -1}, api.Val{})
	return x
}

// open is a text of all of a thing, spare room too.
func open(l []api.Box) string {
	var all []string
	for _, b := range l[:cap(l)] {
		all = append(all, fmt.Sprint(len(b.Lo), b.Lo[:cap(b.Lo)], len(b.Hi), b.Hi[:cap(b.Hi)]))
	}
	return strings.Join(all, ";")
}

func openTable(x api.Table) string {
	text := fmt.Sprint(x, x.In[:cap(x.In)], x.Rules[:cap(x.Rules)], x.Order[:cap(x.Order)])
	for _, r := range x.Rules[:cap(x.Rules)] {
		text += fmt.Sprint(r.Cells[:cap(r.Cells)])
	}
	return text
}

func TestNothingThatIsHandedInIsChanged(t *testing.T) {
	l := roomyBoxes(box(5, 9, 0, 9), box(0, 3, 2, 9), box(0, 9, 0, 1), box(3, 4, 1, 8))
	whole := roomyBox(box(0, 9, 0, 9))
	p := roomy(7, 6, 6)
	x := roomyTable()
	keptL, keptWhole, keptTable := open(l), open(pile(whole)), openTable(x)
	for range 2 {
		if !gaps.Is(whole) || !gaps.In(whole, p) || gaps.In(whole, p[:1]) {
			t.Error("spare room is looked at")
		}
		hole(t, l, whole, row(4, 9))
		hole(t, l[:2], whole, row(0, 0))
		overlap(t, l, 0, 2, true)
		overlap(t, l[:2], 0, 0, false)
		of(t, x, box(1, 1, 0, most), box(0, 4, 1, 2), box(3, 9, 0, 0))
		if open(l) != keptL || open(pile(whole)) != keptWhole || openTable(x) != keptTable || !slices.Equal(p[:4], row(6, 6, 7, 7)) {
			t.Fatal("what is handed in is changed")
		}
	}
}

// spoil changes all of a list, spare room too.
func spoil(l []int) {
	l = l[:cap(l)]
	for i := range l {
		l[i] = -9
	}
}

// An answered point is the caller's: a change of it changes nothing else.
func TestHolesAreNewMemory(t *testing.T) {
	for _, l := range [][]api.Box{nil, roomyBoxes(box(5, 9, 0, 9), box(0, 3, 2, 9)), roomyBoxes(box(2, 9, 0, 9), box(0, 1, 0, 8))} {
		whole := roomyBox(box(0, 9, 0, 9))
		want, _ := gaps.Hole(l, whole)
		want = slices.Clone(want)
		kept, keptWhole := open(l), open(pile(whole))
		first, _ := gaps.Hole(l, whole)
		for range 3 {
			p, _ := gaps.Hole(l, whole)
			spoil(p)
			if open(l) != kept || open(pile(whole)) != keptWhole || !slices.Equal(first, want) {
				t.Fatal("changed by a change of an answer")
			}
			hole(t, l, whole, want)
		}
		for _, b := range append(slices.Clone(l), whole) {
			spoil(b.Lo)
			spoil(b.Hi)
		}
		if !slices.Equal(first, want) {
			t.Fatal("an answer is changed later")
		}
	}
}

// No two lists of one answer, nor of two, share any memory.
func TestBoxesAreNewMemory(t *testing.T) {
	x := roomyTable()
	kept := openTable(x)
	numbers, boxes := map[*int]int{}, map[*api.Box]int{}
	for range 3 {
		l, _ := gaps.Of(x)
		all := l[:cap(l)]
		for i := range all {
			boxes[&all[i]]++
			for _, side := range [][]int{all[i].Lo, all[i].Hi} {
				side = side[:cap(side)]
				for k := range side {
					numbers[&side[k]]++
				}
			}
		}
	}
	for _, n := range numbers {
		if n > 1 {
			t.Fatal("two lists have one number")
		}
	}
	for _, n := range boxes {
		if n > 1 {
			t.Fatal("two answers have one box")
		}
	}
	l, _ := gaps.Of(x)
	want := fmt.Sprint(l)
	for range 2 {
		m, _ := gaps.Of(x)
		if fmt.Sprint(m) != want || openTable(x) != kept {
			t.Fatal("changed by a change of an answer")
		}
		for _, b := range m {
			spoil(b.Lo)
			spoil(b.Hi)
		}
		clear(m[:cap(m)])
	}
	for i := range x.Rules {
		x.Rules[i].Cells[0] = "x"
		x.Rules[i] = api.Rule{}
	}
	gaps.Of(x)
	if fmt.Sprint(l) != want {
		t.Fatal("an answer is changed later")
	}
}

// A call's answer hangs on what it is given then, on nothing of an earlier call.
func TestNothingIsKept(t *testing.T) {
	l := pile(box(0, 3), box(5, 9))
	whole := box(0, 9)
	x := sheet(1, "5", "6")
	for n := 1; n < 50; n++ {
		l[0].Hi[0], l[1].Lo[0], l[1].Hi[0], whole.Hi[0] = n, n+2, n+5, n+5
		hole(t, l, whole, row(n+1))
		overlap(t, l, 0, 0, false)
		l[1].Lo[0] = n
		hole(t, l, whole, nil)
		overlap(t, l, 0, 1, true)
		whole.Hi[0]++
		hole(t, l, whole, row(n+6))
		x.Rules[1].Cells[0] = fmt.Sprint("< ", n)
		of(t, x, box(5, 5), box(0, n-1))
		x.Rules[1].Cells[0] = "< x"
		noBoxes(t, x)
		l[1].Hi[0] = n - 1
		noHole(t, "upside down", l, whole)
		noOverlap(t, "upside down", l...)
	}
}

// Nil and empty rows are one.
func TestNilAndEmptyRowsAreOne(t *testing.T) {
	for _, l := range [][]api.Box{nil, {}} {
		hole(t, l, box(3, 9), row(3))
		overlap(t, l, 0, 0, false)
	}
	for _, empty := range [][]int{nil, {}} {
		if gaps.Is(api.Box{Lo: empty, Hi: empty}) || gaps.Is(api.Box{Lo: nil, Hi: empty}) || gaps.In(api.Box{Lo: empty, Hi: empty}, empty) || gaps.In(box(0, 9), empty) {
			t.Error("a box without sides is one")
		}
	}
	for _, rules := range [][]api.Rule{nil, {}} {
		l, ok := gaps.Of(api.Table{Hit: "U", In: []string{"x"}, Rules: rules})
		if !ok || len(l) != 0 {
			t.Error(l, ok)
		}
	}
}
