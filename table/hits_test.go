package table_test

import (
	"slices"
	"strings"
	"testing"

	"dossier/api"
)

// What a cell comes to.
const (
	fits = iota
	misses
	fails
)

// cells is cells of each outcome, of an In that is 5.
func cells() [3][]string {
	return [3][]string{
		{"5", "-", "> 4", "not(6)", "[5..6)", "6, 5", "x", "5, big * 10", "not(< 5, [6..7])", "!= z"},
		{"6", "< 5", "not(5)", "(5..6]", "6, 7", "y", "not(5, big * 10)", "z", "not(5 = 5, x)", `"5"`},
		{"big * 10", "6, big * 10", "not(big * 10)", "not(6, big * 10)", "[big * 10..6]", "(9..big * 10]", "< big * 10", "t + t + t + t + t + t", "z, 0 - big - 1"},
	}
}

// drawn is a row of cells with some outcomes.
func (x *draw) drawn(row []int) []string {
	var l []string
	for _, o := range row {
		l = append(l, x.of(cells()[o]...))
	}
	return l
}

// draw is drawn numbers, the same ones each time.
type draw uint64

func (x *draw) next(n int) int {
	*x = *x*6364136223846793005 + 1442695040888963407
	return int(*x>>33) % n
}

func (x *draw) of(l ...string) string { return l[x.next(len(l))] }

// expected is the places of the rows all of which fit, and whether one fails
// ahead of what misses.
func expected(rows [][]int) (l []int, e api.Errno) {
	for i, row := range rows {
		at := slices.IndexFunc(row, func(o int) bool { return o != fits })
		switch {
		case at < 0:
			l = append(l, i)
		case row[at] == fails:
			return nil, api.ErrOver
		}
	}
	return l, api.OK
}

// All outcomes of up to six cells, as one to six rules of one to three.
func TestHitsOfAllOutcomes(t *testing.T) {
	var x draw
	for _, shape := range [][2]int{{0, 1}, {0, 2}, {0, 3}, {1, 1}, {2, 1}, {3, 1}, {4, 1}, {5, 1}, {6, 1}, {1, 2}, {2, 2}, {3, 2}, {1, 3}, {2, 3}} {
		height, width := shape[0], shape[1]
		total := 1
		for range height * width {
			total *= 3
		}
		for n := range total {
			tab := api.Table{Hit: x.of(kinds()...), In: slices.Repeat([]string{"x"}, width)}
			var rows [][]int
			for range height {
				var row []int
				for range width {
					row, n = append(row, n%3), n/3
				}
				rows = append(rows, row)
				tab.Rules = append(tab.Rules, rule(num(1, 0), x.drawn(row)...))
			}
			want, e := expected(rows)
			hits(t, tab, file(), want, e)
			if e != api.OK {
				run(t, tab, file(), "null", e)
			}
		}
	}
}

// Each cell is as its outcome says, alone.
func TestHitsOfEachCell(t *testing.T) {
	for outcome, all := range cells() {
		for _, s := range all {
			tab := api.Table{Hit: "R", In: []string{"x"}, Rules: []api.Rule{rule(num(1, 0), s)}}
			want, e := expected([][]int{{outcome}})
			hits(t, tab, file(), want, e)
		}
	}
}

// All Ins are asked, ahead of all rules, whatever those are.
func TestHitsOfInsThatErr(t *testing.T) {
	rules := [][]api.Rule{nil, {rule(num(1, 0), "6", "6", "6")}, {rule(num(1, 0), "-", "-", "-")}, {rule(num(1, 0), "6", "-", "-"), rule(num(1, 0), "-", "6", "-")}}
	for n := 1; n <= 3; n++ {
		for which := range 1 << n {
			for _, s := range []string{"big * 10", "t + t + t + t + t + t", "0 - big - 1", "sum([big, 1])", "[1, 2, 3, 4, 5, 6, 7, 8, 9]"} {
				in := slices.Repeat([]string{"x"}, n)
				e := api.OK
				for i := range in {
					if which>>i&1 > 0 {
						in[i], e = s, api.ErrOver
					}
				}
				for _, l := range rules {
					tab := api.Table{Hit: "R", In: in, Has: true, Else: num(1, 0)}
					for _, r := range l {
						tab.Rules = append(tab.Rules, rule(r.Out, r.Cells[:n]...))
					}
					if e != api.OK {
						errs(t, tab, file(), e)
					} else if _, e := hitsOf(tab); e != api.OK {
						t.Fatal(e)
					}
				}
			}
		}
	}
}

func TestHitsOfTablesThatMayNotBe(t *testing.T) {
	x := good()
	x.In = []string{"big * 10", "y +"}
	errs(t, x, file(), api.ErrArg) // ahead of what an In errs with
	x = good()
	x.Rules = []api.Rule{rule(num(1, 0), "big * 10", "1"), rule(num(1, 0), "-", "<")}
	errs(t, x, file(), api.ErrArg) // ahead of what a cell errs with
	x.Rules = []api.Rule{rule(num(1, 0), "-", "-"), rule(list(), "1", "1")}
	errs(t, x, file(), api.ErrArg) // what does not match may not be, either
	x = good()
	x.Rules, x.Order = nil, []api.Val{num(10, 1)}
	errs(t, x, file(), api.ErrArg)
	errs(t, api.Table{}, nil, api.ErrArg)
}

// Each cell is asked of its own In.
func TestHitsOfEachInsValue(t *testing.T) {
	env := []api.Bind{{Name: "a", V: num(1, 0)}, {Name: "b", V: num(2, 0)}, {Name: "c", V: txt("c")}}
	names, values := []string{"a", "b", "c"}, []string{"1", "2", `"c"`}
	for n := range 27 {
		in := []int{n % 3, n / 3 % 3, n / 9}
		for m := range 27 {
			of := []int{m % 3, m / 3 % 3, m / 9}
			tab := api.Table{Hit: "R", In: []string{names[in[0]], names[in[1]], names[in[2]]}, Rules: []api.Rule{rule(num(1, 0), values[of[0]], values[of[1]], values[of[2]])}}
			var want []int
			if slices.Equal(in, of) {
				want = []int{0}
			}
			hits(t, tab, env, want, api.OK)
		}
	}
}

func TestHitsOfNames(t *testing.T) {
	ask := func(in, cell string, env []api.Bind, want ...int) {
		t.Helper()
		hits(t, api.Table{Hit: "R", In: []string{in}, Rules: []api.Rule{rule(num(1, 0), cell)}}, env, want, api.OK)
	}
	ask("x", "5", file(), 0) // the first one of two
	ask("x", "9", file())
	ask("9", "x", file())
	ask("5", "x", file(), 0)
	ask("x + y", "7.5", file(), 0)
	ask("t", `"abc"`, file(), 0)
	ask("t", `["a".."b")`, file(), 0)
	ask("l", `[1, "a"]`, file(), 0)
	ask("l", "l", file(), 0)
	ask("count(l)", "2", file(), 0)
	ask("yes", "true", file(), 0)
	ask("nil", "null", file(), 0)
	ask("x > 4", "true", file(), 0)
	ask("x / 0", "null", file(), 0)
	ask("x > t", "null", file(), 0)
	// one that does not stand there is Null
	ask("z", "null", file(), 0)
	ask("z", "z", file(), 0)
	ask("z", "-", file(), 0)
	ask("z", "0", file())
	ask("z", "> 0, <= 0", file())
	ask("z", "not(0)", file(), 0)
	ask("x", "z", file())
	ask("x", "> z", file())
	for _, env := range [][]api.Bind{nil, {}, {{Name: "X", V: num(5, 0)}, {Name: "", V: num(5, 0)}}} {
		ask("x", "null", env, 0)
		ask("x", "5", env)
	}
}

// Neither the Hit, nor Outs, nor an Order, nor an Else tell what is hit.
func TestHitsHangsOnCellsAlone(t *testing.T) {
	for _, hit := range kinds() {
		for _, v := range outs() {
			tab := api.Table{Hit: hit, In: []string{"x"}, Rules: []api.Rule{rule(v, "5"), rule(v, "6"), rule(v, "-"), rule(v, "> 4, 1"), rule(v, "[6..9]"), rule(v, "not(6)")}, Order: []api.Val{v}, Has: true, Else: v}
			hits(t, tab, file(), []int{0, 2, 3, 5}, api.OK)
			hits(t, tab, nil, []int{2, 5}, api.OK)
			tab.Rules = tab.Rules[1:2]
			hits(t, tab, file(), nil, api.OK)
			tab.Rules = nil
			hits(t, tab, file(), nil, api.OK)
		}
	}
}

// Of names whose values may not be nothing is said; but each call ends, and
// tells nothing beside an error.
func TestHitsOfNamesThatMayNotBe(t *testing.T) {
	for _, v := range unsound() {
		env := []api.Bind{{Name: "v", V: v}, {Name: "x", V: num(5, 0)}}
		for _, in := range []string{"v", "v + 1", "[v, v]", "sum(v)", "x"} {
			for _, s := range []string{"-", "v", "< v", "[v..v]", "not(v)", "null"} {
				for _, hit := range kinds() {
					tab := api.Table{Hit: hit, In: []string{in}, Rules: []api.Rule{rule(num(1, 0), s), rule(num(1, 0), s)}}
					if l, e := hitsOf(tab, env...); e != api.OK && len(l) > 0 {
						t.Errorf("%s: %v beside %v", told(tab), l, e)
					}
					runOf(tab, env...)
				}
			}
		}
	}
}

func TestHitsOfManyNames(t *testing.T) {
	env := make([]api.Bind, 1<<16)
	for i := range env {
		env[i] = api.Bind{Name: strings.Repeat("y", i%100), V: num(i, 0)}
	}
	env = append(env, api.Bind{Name: "x", V: num(5, 0)})
	hits(t, api.Table{Hit: "R", In: []string{"x"}, Rules: []api.Rule{rule(null(), "5"), rule(null(), "6")}}, env, []int{0}, api.OK)
}
