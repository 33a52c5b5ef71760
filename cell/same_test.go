package cell_test

import (
	"testing"

	"dossier/api"
	"dossier/cell"
)

// same asks whether two rows are one, either way round.
func same(t *testing.T, a, b []api.Test, want bool) {
	t.Helper()
	if cell.Same(a, b) != want || cell.Same(b, a) != want {
		t.Errorf("Same of %.300s and %.300s: not %t", told(a), told(b), want)
	}
}

// kinds is a test of each Kind, with all fields set.
func kinds() []api.Test {
	var l []api.Test
	for kind := api.TestAny; kind <= api.TestNot; kind++ {
		l = append(l, api.Test{Kind: kind, Rel: "<", A: name("a"), B: name("b"), Lo: true, Hi: true, Kids: tests(is(name("c")), always())})
	}
	return l
}

// change is one field changed, and the Kinds that name it.
type change struct {
	what  string
	to    func(x *api.Test)
	named []int
}

func changes() []change {
	const cmp, within, not = api.TestCmp, api.TestRange, api.TestNot
	return []change{
		{"Rel", func(x *api.Test) { x.Rel = "<=" }, []int{cmp}},
		{"no Rel", func(x *api.Test) { x.Rel = "" }, []int{cmp}},
		{"A", func(x *api.Test) { x.A = name("z") }, []int{cmp, within}},
		{"A's Kind", func(x *api.Test) { x.A.Kind = api.ExprText }, []int{cmp, within}},
		{"no A", func(x *api.Test) { x.A = api.Expr{} }, []int{cmp, within}},
		{"B", func(x *api.Test) { x.B = name("z") }, []int{within}},
		{"B's Kind", func(x *api.Test) { x.B.Kind = api.ExprCall }, []int{within}},
		{"no B", func(x *api.Test) { x.B = api.Expr{} }, []int{within}},
		{"A and B the other way round", func(x *api.Test) { x.A, x.B = x.B, x.A }, []int{cmp, within}},
		{"Lo", func(x *api.Test) { x.Lo = false }, []int{within}},
		{"Hi", func(x *api.Test) { x.Hi = false }, []int{within}},
		{"no Kids", func(x *api.Test) { x.Kids = nil }, []int{not}},
		{"less Kids", func(x *api.Test) { x.Kids = x.Kids[:1] }, []int{not}},
		{"more Kids", func(x *api.Test) { x.Kids = tests(is(name("c")), always(), always()) }, []int{not}},
		{"a Kid", func(x *api.Test) { x.Kids = tests(is(name("d")), always()) }, []int{not}},
		{"the last Kid", func(x *api.Test) { x.Kids = tests(is(name("c")), none()) }, []int{not}},
		{"Kids the other way round", func(x *api.Test) { x.Kids = tests(always(), is(name("c"))) }, []int{not}},
		{"a Kid's B", func(x *api.Test) {
			x.Kids = tests(api.Test{Kind: api.TestCmp, Rel: "=", A: name("c"), B: name("z")}, always())
		}, nil},
		{"nothing A names", func(x *api.Test) { x.A.B, x.A.D, x.A.Lo, x.A.Hi = true, api.Dec{M: 1}, true, true }, nil},
		{"nothing B names", func(x *api.Test) { x.B.B, x.B.D, x.B.Lo, x.B.Hi = true, api.Dec{M: 1}, true, true }, nil},
	}
}

// Of each Kind each field that it names tells a difference, and no other one does.
func TestSameFieldByField(t *testing.T) {
	for _, x := range kinds() {
		same(t, tests(x), tests(x), true)
		same(t, tests(x), bare(tests(x)), true)
		for _, c := range changes() {
			y := x
			c.to(&y)
			want := true
			for _, kind := range c.named {
				want = want && kind != x.Kind
			}
			if cell.Same(tests(x), tests(y)) != want || cell.Same(tests(y), tests(x)) != want {
				t.Errorf("Kind %d, %s: not %t", x.Kind, c.what, want)
			}
			same(t, tests(none(x)), tests(none(y)), want)
			same(t, tests(always(), x), tests(always(), y), want)
			same(t, tests(x, always()), tests(y, always()), want)
			same(t, tests(none(always(), none(x))), tests(none(always(), none(y))), want)
		}
	}
}

func TestSameOfUnlikeKinds(t *testing.T) {
	all := append(kinds(), api.Test{}, api.Test{Kind: -1}, api.Test{Kind: 5})
	for i, x := range all {
		for k, y := range all {
			same(t, tests(x), tests(y), i == k)
			same(t, tests(none(x)), tests(none(y)), i == k)
			y = x
			y.Kind = all[k].Kind
			same(t, tests(x), tests(y), i == k)
		}
	}
}

func TestSameOfRows(t *testing.T) {
	rows := [][]api.Test{nil, tests(always()), tests(always(), always()), tests(always(), always(), always()), tests(none()), tests(none(none())), tests(none(), none()), tests(none(always())), tests(none(always(), always())), tests(is(whole(1))), tests(is(whole(1)), is(whole(2))), tests(is(whole(2)), is(whole(1))), tests(is(whole(2))), tests(none(is(whole(1)))), tests(none(is(whole(1))), is(whole(1))), tests(is(whole(1)), none(is(whole(1))))}
	for i, a := range rows {
		for k, b := range rows {
			same(t, a, b, i == k)
			same(t, tests(none(a...)), tests(none(b...)), i == k)
		}
	}
	same(t, nil, []api.Test{}, true)
	same(t, tests(none()), []api.Test{{Kind: api.TestNot, Kids: []api.Test{}}}, true)
	same(t, []api.Test{}, tests(always()), false)
}

func TestSameOfTexts(t *testing.T) {
	all := []string{"-", "1", "2", `"1"`, "x", "= x + 1", "x + 2", "< 1", "<= 1", "> 1", ">= 1", "!= 1", "[1..2]", "(1..2]", "[1..2)", "(1..2)", "[1..3]", "[0..2]", "[2..1]", "[1, 2]", "[1]", "not(1)", "not(2)", "not(1, 1)", "not(< 1)", "not([1..2])", "not([1..2))", "1, 1", "1, 2", "2, 1", "1, 2, 3", "1, not(1)", "not", "not, 1"}
	for i, a := range all {
		for k, b := range all {
			same(t, parsed(t, a), parsed(t, b), i == k)
		}
	}
	for _, p := range [][2]string{{"1", "= 1"}, {"1", "(1)"}, {"1", "1.0"}, {" - ", "-"}, {"not(1,2)", " not ( = 1 , = ((2)) ) "}, {"[1..2]", "[ (1) .. 2.0 ]"}, {"a + b * c", "(a + (b * c))"}} {
		same(t, parsed(t, p[0]), parsed(t, p[1]), true)
	}
}

func TestSameOfManyWithinOneAnother(t *testing.T) {
	const n = 1 << 16
	deep := func(x api.Test) []api.Test {
		for range n {
			x = none(x)
		}
		return tests(x)
	}
	same(t, deep(always()), deep(always()), true)
	same(t, deep(always()), deep(none()), false)
	same(t, deep(is(whole(1))), deep(is(whole(2))), false)
	same(t, deep(always()), tests(none(always())), false)
	x, y, z := whole(1), whole(1), whole(2)
	for range n {
		x, y, z = api.Expr{Kind: api.ExprNeg, Kids: []api.Expr{x}}, api.Expr{Kind: api.ExprNeg, Kids: []api.Expr{y}}, api.Expr{Kind: api.ExprNeg, Kids: []api.Expr{z}}
	}
	same(t, tests(is(x)), tests(is(y)), true)
	same(t, tests(is(x)), tests(is(z)), false)
	same(t, tests(between(true, true, x, x)), tests(between(true, true, y, z)), false)
}

func TestSameOfManySideBySide(t *testing.T) {
	const n = 1 << 18
	row := func(last api.Test) []api.Test {
		l := make([]api.Test, n)
		for i := range l {
			l[i] = is(whole(i))
		}
		l[n-1] = last
		return l
	}
	a := row(always())
	same(t, a, row(always()), true)
	same(t, a, row(none()), false)
	same(t, a, a[:n-1], false)
	same(t, tests(none(a...)), tests(none(row(always())...)), true)
	same(t, tests(none(a...)), tests(none(a[:n-1]...)), false)
}
