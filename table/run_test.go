package table_test

import (
	"slices"
	"testing"

	"dossier/api"
	"dossier/show"
)

// says asks what Outs that are hit come to.
func says(t *testing.T, kind, want string, l ...api.Val) {
	t.Helper()
	run(t, hit(kind, l, nil), file(), want, api.OK)
}

// many asks for the error of Outs that are hit.
func many(t *testing.T, kind string, e api.Errno, l ...api.Val) {
	t.Helper()
	run(t, hit(kind, l, nil), file(), "null", e)
}

func TestRunOfTheExample(t *testing.T) {
	says(t, "+", "3", num(1, 0), num(2, 0))
}

// Without hits the Hit tells nothing: # is not nought, R no empty List.
func TestRunWithoutHits(t *testing.T) {
	missed := []api.Rule{rule(num(1, 0), "6"), rule(num(2, 0), "not(5)")}
	for _, kind := range kinds() {
		for _, rules := range [][]api.Rule{nil, {}, missed} {
			x := api.Table{Hit: kind, In: []string{"x"}, Rules: rules, Order: []api.Val{num(2, 0)}}
			run(t, x, file(), "null", api.OK)
			x.Else.L = make([]api.Val, 0, 2)
			run(t, x, file(), "null", api.OK)
			x.Has = true
			for _, v := range append(outs(), lists()...) {
				x.Else = v
				run(t, x, file(), show.Val(v), api.OK)
			}
		}
	}
}

// With a hit the Else tells nothing.
func TestRunWithOneHit(t *testing.T) {
	for at := range 6 {
		for _, v := range outs() {
			x := api.Table{In: []string{"x"}, Order: []api.Val{num(8, 0)}, Has: true, Else: num(7, 0)}
			for range 6 {
				x.Rules = append(x.Rules, rule(num(9, 0), "6"))
			}
			x.Rules[at] = rule(v, "5")
			for _, kind := range kinds() {
				x.Hit = kind
				want := show.Val(v)
				switch {
				case kind == "R" || kind == "O":
					want = "[" + want + "]"
				case kind == "#":
					want = "1"
				case v.Kind != api.Num && (kind == "+" || kind == "<" || kind == ">"):
					want = "null"
				}
				run(t, x, file(), want, api.OK)
			}
		}
	}
}

func TestRunOfU(t *testing.T) {
	for n := 2; n <= 6; n++ {
		for _, v := range outs() {
			many(t, "U", api.ErrMany, slices.Repeat([]api.Val{v}, n)...)
		}
	}
	many(t, "U", api.ErrMany, num(1, 0), txt("a"))
}

func TestRunOfA(t *testing.T) {
	for n := 2; n <= 6; n++ {
		for _, v := range outs() {
			l := slices.Repeat([]api.Val{v}, n)
			says(t, "A", show.Val(v), l...)
			for at := range l {
				for _, w := range outs() {
					if show.Val(v) != show.Val(w) {
						l[at] = w
						many(t, "A", api.ErrMany, l...)
					}
				}
				l[at] = v
			}
		}
	}
}

func TestRunOfF(t *testing.T) {
	says(t, "F", "3", num(3, 0), num(1, 0), txt("a"))
	says(t, "F", "null", null(), num(1, 0))
	says(t, "F", `"a"`, txt("a"), num(1, 0))
}

func TestRunOfPAndO(t *testing.T) {
	order := []api.Val{txt("b"), num(7, 0), num(1, 0)}
	for _, x := range []struct {
		l    []api.Val
		p, o string
	}{
		{[]api.Val{num(1, 0), num(7, 0), txt("a")}, "7", `[7, 1, "a"]`},
		{[]api.Val{txt("a"), num(1, 0)}, "1", `[1, "a"]`},
		{[]api.Val{txt("a"), txt("c")}, `"a"`, `["a", "c"]`},
		{[]api.Val{txt("c"), txt("a")}, `"c"`, `["c", "a"]`},
		{[]api.Val{num(1, 0), txt("c"), txt("b"), txt("a"), num(7, 0), null()}, `"b"`, `["b", 7, 1, "c", "a", null]`},
		{[]api.Val{num(1, 0), txt("b"), num(1, 0), txt("b")}, `"b"`, `["b", "b", 1, 1]`},
		{[]api.Val{null(), yes(true), num(1, 0), yes(false), null()}, "1", "[1, null, true, false, null]"},
		{[]api.Val{num(1, 1), txt("1"), num(-7, 0)}, "0.1", `[0.1, "1", -7]`},
	} {
		run(t, hit("P", x.l, order), file(), x.p, api.OK)
		run(t, hit("O", x.l, order), file(), x.o, api.OK)
		run(t, hit("P", x.l, nil), file(), show.Val(x.l[0]), api.OK)
		run(t, hit("O", x.l, nil), file(), show.Val(list(x.l...)), api.OK)
		run(t, hit("P", x.l, lists()[3:6]), file(), show.Val(x.l[0]), api.OK)
		run(t, hit("R", x.l, order), file(), show.Val(list(x.l...)), api.OK)
		run(t, hit("F", x.l, order), file(), show.Val(x.l[0]), api.OK)
	}
	// of an Order each place counts, the last one of eight too
	full := []api.Val{num(11, 0), num(12, 0), num(13, 0), num(14, 0), list(), null(), txt("y"), txt("x")}
	run(t, hit("P", []api.Val{num(1, 0), txt("x"), txt("y")}, full), file(), `"y"`, api.OK)
	run(t, hit("P", []api.Val{num(1, 0), txt("x")}, full), file(), `"x"`, api.OK)
	run(t, hit("O", []api.Val{num(1, 0), txt("x"), txt("y"), null()}, full), file(), `[null, "y", "x", 1]`, api.OK)
}

func TestRunOfR(t *testing.T) {
	says(t, "R", `[2, 1, 2, "a", null, true]`, num(2, 0), num(1, 0), num(2, 0), txt("a"), null(), yes(true))
	says(t, "R", "[null, null]", null(), null())
}

func TestRunOfNumbers(t *testing.T) {
	says(t, "+", "6", num(1, 0), num(2, 0), num(3, 0))
	says(t, "+", "0.3", num(1, 1), num(2, 1))
	says(t, "+", "1", num(25, 2), num(75, 2))
	says(t, "+", "0", num(-1, 4), num(1, 4))
	says(t, "+", "1000000000", num(api.MaxM, 0), num(4, 1))
	says(t, "+", "1000000000", num(api.MaxM, 0), num(5, 1))
	says(t, "+", "999999999", num(api.MaxM-1, 0), num(4, 1))
	says(t, "+", "1000000000", num(api.MaxM, 0), num(3, 1), num(3, 1)) // each step is rounded
	says(t, "+", "1000000000", num(api.MaxM, 0), num(-1, 0), num(1, 0))
	says(t, "<", "2", num(4, 0), num(2, 0), num(3, 0))
	says(t, ">", "4", num(2, 0), num(4, 0), num(3, 0))
	says(t, "<", "-3", num(0, 0), num(-3, 0), num(-25, 1))
	says(t, ">", "0.5", num(1, 1), num(5, 1), num(49, 2))
	many(t, "+", api.ErrOver, num(api.MaxM, 0), num(1, 0))
	many(t, "+", api.ErrOver, num(-api.MaxM, 0), num(-1, 0))
	many(t, "+", api.ErrOver, num(api.MaxM, 0), num(6, 1))
	many(t, "+", api.ErrOver, num(api.MaxM, 0), num(1, 0), num(-1, 0)) // from left to right
	many(t, "+", api.ErrOver, num(api.MaxM, 0), num(api.MaxM, 0), num(api.MaxM, 0), num(-api.MaxM, 0), num(-api.MaxM, 0))
	says(t, "<", "1000000000", num(api.MaxM, 0), num(api.MaxM, 0))
	says(t, ">", "1000000000", num(api.MaxM, 0), num(api.MaxM, 0))
}

// One that is no Num, wherever it stands, makes Null of all, also of a sum that
// is too great.
func TestRunOfNumbersAndOthers(t *testing.T) {
	for _, kind := range []string{"+", "<", ">"} {
		for _, v := range []api.Val{null(), yes(true), yes(false), txt(""), txt("a"), txt("1")} {
			for n := 1; n <= 6; n++ {
				for at := range n {
					l := slices.Repeat([]api.Val{num(api.MaxM, 0)}, n)
					l[at] = v
					says(t, kind, "null", l...)
				}
				says(t, kind, "null", slices.Repeat([]api.Val{v}, n)...)
			}
		}
	}
}

func TestRunOfHowMany(t *testing.T) {
	for n := 1; n <= 6; n++ {
		for _, v := range outs() {
			says(t, "#", string(rune('0'+n)), slices.Repeat([]api.Val{v}, n)...)
		}
	}
	says(t, "#", "3", txt("a"), null(), num(1, 0))
}

// Of all rules that are hit, and of these alone, in all ways that there are.
func TestRunOfEachSetOfHits(t *testing.T) {
	order := []api.Val{num(4, 0), num(2, 0), num(6, 0)}
	for set := range 1 << 6 {
		for _, kind := range kinds() {
			x := api.Table{Hit: kind, In: []string{"x"}, Order: order, Has: true, Else: txt("none")}
			var places []int
			for i := range 6 {
				cell := "6"
				if set>>i&1 > 0 {
					cell, places = "5", append(places, i)
				}
				x.Rules = append(x.Rules, rule(num(i+1, 0), cell))
			}
			want, e := answer(x, places)
			hits(t, x, file(), places, api.OK)
			run(t, x, file(), want, e)
		}
	}
}

// An error of what is gone through is told ahead of one of what is decided.
func TestRunOfErrors(t *testing.T) {
	for _, kind := range kinds() {
		x := hit(kind, []api.Val{num(1, 0), num(2, 0), num(api.MaxM, 0)}, nil)
		x.Has, x.Else = true, num(3, 0)
		x.Rules = append(x.Rules, rule(null(), "big * 10"))
		errs(t, x, file(), api.ErrOver)
		x.Rules[3].Cells[0] = "6, big * 10"
		errs(t, x, file(), api.ErrOver)
		x.Rules[3].Cells[0] = ""
		errs(t, x, file(), api.ErrArg)
		x.Rules = x.Rules[:3]
		x.In[0] = "big * 10"
		errs(t, x, file(), api.ErrOver)
		x.Order = []api.Val{num(10, 1)}
		errs(t, x, file(), api.ErrArg)
	}
}
