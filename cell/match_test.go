package cell_test

import (
	"math"
	"math/big"
	"strings"
	"testing"

	"dossier/api"
	"dossier/cell"
	"dossier/show"
)

func null() api.Val             { return api.Val{} }
func yes(b bool) api.Val        { return api.Val{Kind: api.Bool, B: b} }
func num(m, s int) api.Val      { return api.Val{Kind: api.Num, D: api.Dec{M: m, S: s}} }
func txt(s string) api.Val      { return api.Val{Kind: api.Text, T: s} }
func list(l ...api.Val) api.Val { return api.Val{Kind: api.List, L: l} }

func name(s string) api.Expr { return api.Expr{Kind: api.ExprName, T: s} }

// literal is the expression of a value.
func literal(v api.Val) api.Expr {
	x := api.Expr{Kind: []int{api.ExprNull, api.ExprBool, api.ExprNum, api.ExprText, api.ExprList}[v.Kind], B: v.B, D: v.D, T: v.T}
	for _, w := range v.L {
		x.Kids = append(x.Kids, literal(w))
	}
	return x
}

func whole(n int) api.Expr { return literal(num(n, 0)) }

// over is what errs with ErrOver, faulty with ErrArg.
func over() api.Expr {
	return api.Expr{Kind: api.ExprBin, T: "*", Kids: []api.Expr{whole(api.MaxM), whole(api.MaxM)}}
}

func faulty() api.Expr { return api.Expr{} }

func always() api.Test                       { return api.Test{Kind: api.TestAny} }
func stands(rel string, a api.Expr) api.Test { return api.Test{Kind: api.TestCmp, Rel: rel, A: a} }
func is(a api.Expr) api.Test                 { return stands("=", a) }
func none(l ...api.Test) api.Test            { return api.Test{Kind: api.TestNot, Kids: l} }

func between(lo, hi bool, a, b api.Expr) api.Test {
	return api.Test{Kind: api.TestRange, A: a, B: b, Lo: lo, Hi: hi}
}

func tests(l ...api.Test) []api.Test { return l }

// file is names of each Kind of values.
func file() []api.Bind {
	return []api.Bind{
		{Name: "x", V: num(5, 0)}, {Name: "h", V: num(25, 1)}, {Name: "t", V: txt("abc")}, {Name: "yes", V: yes(true)}, {Name: "nil", V: null()},
		{Name: "l", V: list(num(1, 0), txt("a"))}, {Name: "big", V: num(api.MaxM, 0)}, {Name: "x", V: num(9, 0)}, {Name: "not", V: num(7, 0)},
	}
}

// ask asks whether a value matches tests.
func ask(t *testing.T, l []api.Test, v api.Val, env []api.Bind, want bool, e api.Errno) {
	t.Helper()
	if got, err := cell.Match(l, v, env); got != want || err != e {
		t.Fatalf("Match(%.300s) of %s: %t, %v; not %t, %v", told(l), show.Val(v), got, err, want, e)
	}
}

// matches asks whether values match a cell's text: none of them errs.
func matches(t *testing.T, s string, want bool, l ...api.Val) {
	t.Helper()
	for _, v := range l {
		ask(t, parsed(t, s), v, file(), want, api.OK)
	}
}

// errs asks for the error of a cell's text.
func errs(t *testing.T, s string, v api.Val, e api.Errno) {
	t.Helper()
	ask(t, parsed(t, s), v, file(), false, e)
}

// few is values of each Kind, edges among them.
func few() []api.Val {
	return []api.Val{
		null(), yes(false), yes(true),
		num(0, 0), num(1, 0), num(-3, 0), num(25, 1), num(-1, 4), num(api.MaxM, 0), num(-api.MaxM, 0), num(999999999, 4),
		txt(""), txt("a"), txt("ab"), txt("b"), txt("sixteen bytes xx"),
		list(), list(null()), list(num(1, 0)), list(num(1, 0), txt("a")), list(list()), list(list(num(1, 0)), yes(true)),
	}
}

// so tells in another way than the package's whether two values stand so: what
// the sign between them is, and whether that is one of those in rel.
func so(rel string, a, b api.Val) bool {
	switch {
	case rel == "=" || rel == "!=":
		return (show.Val(a) == show.Val(b)) == (rel == "=")
	case a.Kind == api.Num && b.Kind == api.Num:
		return strings.Contains(rel, []string{"<", "=", ">"}[rat(a.D).Cmp(rat(b.D))+1])
	case a.Kind == api.Text && b.Kind == api.Text:
		return strings.Contains(rel, []string{"<", "=", ">"}[strings.Compare(a.T, b.T)+1])
	}
	return false
}

func rat(d api.Dec) *big.Rat {
	return big.NewRat(int64(d.M), []int64{1, 10, 100, 1000, 10000}[d.S])
}

func TestMatchOfAny(t *testing.T) {
	matches(t, "-", true, few()...)
	for _, v := range few() {
		ask(t, tests(always()), v, nil, true, api.OK)
		ask(t, tests(none(always())), v, nil, false, api.OK)
	}
}

func TestMatchOfEachPair(t *testing.T) {
	for _, v := range few() {
		for _, w := range few() {
			env := []api.Bind{{Name: "w", V: w}}
			for _, rel := range relations() {
				want := so(rel, v, w)
				for _, a := range []api.Expr{literal(w), name("w")} {
					ask(t, tests(stands(rel, a)), v, env, want, api.OK)
					ask(t, tests(none(stands(rel, a))), v, env, !want, api.OK)
				}
			}
		}
	}
}

func TestMatchOfEachRange(t *testing.T) {
	for _, v := range few() {
		for _, a := range few() {
			for _, b := range few() {
				env := []api.Bind{{Name: "a", V: a}, {Name: "b", V: b}}
				for ends := range 4 {
					lo, hi := ends&1 != 0, ends&2 != 0
					want := so(edge(lo, ">=", ">"), v, a) && so(edge(hi, "<=", "<"), v, b)
					ask(t, tests(between(lo, hi, literal(a), literal(b))), v, nil, want, api.OK)
					ask(t, tests(between(lo, hi, name("a"), name("b"))), v, env, want, api.OK)
					ask(t, tests(none(between(lo, hi, literal(a), name("b")))), v, env, !want, api.OK)
				}
			}
		}
	}
}

func TestMatchOfTheExample(t *testing.T) {
	matches(t, "[1..5), > 9", true, num(1, 0), num(45, 1), num(10, 0))
	matches(t, "[1..5), > 9", false, num(9999, 4), num(5, 0), num(9, 0), txt("a"), null())
}

func TestMatchOfTexts(t *testing.T) {
	matches(t, "5", true, num(5, 0))
	matches(t, "5", false, num(5, 1), num(-5, 0), num(50, 0), txt("5"), null(), list(num(5, 0)))
	matches(t, "5.0", true, num(5, 0))
	matches(t, "-5", true, num(-5, 0))
	matches(t, "2 + 3", true, num(5, 0))
	matches(t, `"a" + "b"`, true, txt("ab"))
	matches(t, "null", true, null())
	matches(t, "null", false, yes(false), num(0, 0), txt(""), list())
	matches(t, "true", true, yes(true))
	matches(t, "true", false, yes(false), num(1, 0), txt("true"), null())
	matches(t, "false", false, null())
	matches(t, "[1, 2]", true, list(num(1, 0), num(2, 0)))
	matches(t, "[1, 2]", false, list(num(2, 0), num(1, 0)), list(num(1, 0)), num(1, 0), null())
	matches(t, "[]", true, list())
	matches(t, "< 5", true, num(4, 0), num(49999, 4), num(-api.MaxM, 0))
	matches(t, "< 5", false, num(5, 0), num(6, 0), txt(""), null(), yes(true), list())
	matches(t, "<= 5", true, num(5, 0), num(4, 0))
	matches(t, "<= 5", false, num(50001, 4))
	matches(t, "> 5", true, num(50001, 4), num(6, 0))
	matches(t, "> 5", false, num(5, 0), txt("a"), null())
	matches(t, ">= 5", true, num(5, 0), num(6, 0))
	matches(t, ">= 5", false, num(49999, 4))
	matches(t, "!= 5", true, num(4, 0), txt("5"), null(), list())
	matches(t, "!= 5", false, num(5, 0))
	matches(t, `< "b"`, true, txt("a"), txt(""), txt("a~"), txt("B"))
	matches(t, `< "b"`, false, txt("b"), txt("ba"), num(1, 0))
	matches(t, `["a".."c")`, true, txt("a"), txt("b"), txt("bz"))
	matches(t, `["a".."c")`, false, txt("c"), txt(""), num(1, 0), null())
	matches(t, `("a".."c"]`, true, txt("a "), txt("c"))
	matches(t, `("a".."c"]`, false, txt("a"), txt("c "))
	matches(t, "[2..1]", false, num(1, 0), num(2, 0), num(15, 1))
	matches(t, "[1..1]", true, num(1, 0))
	matches(t, "[1..1)", false, num(1, 0))
	matches(t, "(1..1]", false, num(1, 0))
	matches(t, "(1..1)", false, num(1, 0))
	matches(t, `[1.."z"]`, false, num(1, 0), num(2, 0), txt("a"))
	matches(t, `["a"..9]`, false, num(1, 0), txt("b"))
	matches(t, "[null..9]", false, num(1, 0), null())
	matches(t, "[1..null]", false, num(1, 0), null())
	matches(t, "[null..null]", false, null())
	matches(t, "[true..true]", false, yes(true))
	matches(t, "[[1]..[1]]", false, list(num(1, 0)))
	matches(t, "(true and false), 5 = 5", true, yes(false), yes(true))
	matches(t, "(true and false), 5 = 5", false, null())
}

func TestMatchOfNames(t *testing.T) {
	matches(t, "x", true, num(5, 0)) // the first one of two
	matches(t, "x", false, num(9, 0))
	matches(t, "> x", true, num(6, 0))
	matches(t, "[h..x)", true, num(25, 1), num(4, 0))
	matches(t, "[h..x)", false, num(5, 0), num(24, 1))
	matches(t, "(x - 1..x + 1)", true, num(5, 0))
	matches(t, "(x - 1..x + 1)", false, num(4, 0), num(6, 0))
	matches(t, "t", true, txt("abc"))
	matches(t, "yes", true, yes(true))
	matches(t, "l", true, list(num(1, 0), txt("a")))
	matches(t, "nil", true, null())
	matches(t, "not", true, num(7, 0))
	matches(t, "not(not)", false, num(7, 0))
	matches(t, "= not(yes)", true, yes(false))
	// one that does not stand there is Null
	matches(t, "y", true, null())
	matches(t, "y", false, num(0, 0), yes(false), txt("y"))
	matches(t, "!= y", true, num(0, 0))
	matches(t, "!= y", false, null())
	matches(t, "< y, > y, <= y, >= y", false, null(), num(0, 0))
	matches(t, "[y..9]", false, num(0, 0), null())
	matches(t, "[0..y]", false, num(0, 0), null())
	matches(t, "not(y)", true, num(1, 0))
	matches(t, "not(< y)", true, num(1, 0), null())
	for _, env := range [][]api.Bind{nil, {}, {{Name: "X", V: num(1, 0)}, {Name: "", V: num(1, 0)}}} {
		ask(t, tests(is(name("x"))), null(), env, true, api.OK)
		ask(t, tests(is(name("x"))), num(1, 0), env, false, api.OK)
	}
}

func TestMatchOfNot(t *testing.T) {
	matches(t, "not(1, 2)", true, num(3, 0), txt("1"), null())
	matches(t, "not(1, 2)", false, num(1, 0), num(2, 0))
	matches(t, "not(< 1)", true, num(1, 0), txt("a"), null())
	matches(t, "not(< 1)", false, num(0, 0))
	matches(t, "not([1..2), 3)", true, num(0, 0), num(2, 0))
	matches(t, "not([1..2), 3)", false, num(1, 0), num(3, 0))
	for _, v := range few() {
		ask(t, tests(none()), v, nil, true, api.OK)
		ask(t, []api.Test{{Kind: api.TestNot, Kids: []api.Test{}}}, v, nil, true, api.OK)
		ask(t, tests(none(none())), v, nil, false, api.OK)
		ask(t, tests(none(none(none()))), v, nil, true, api.OK)
		ask(t, tests(none(none(always()))), v, nil, true, api.OK)
		ask(t, tests(none(none(), always())), v, nil, false, api.OK)
		ask(t, tests(none(none(always()), none(always()))), v, nil, true, api.OK)
		ask(t, tests(none(always()), none(always())), v, nil, false, api.OK)
		ask(t, tests(none(always()), always()), v, nil, true, api.OK)
	}
}

func TestMatchOfNoTests(t *testing.T) {
	for _, v := range few() {
		ask(t, nil, v, nil, false, api.OK)
		ask(t, []api.Test{}, v, file(), false, api.OK)
	}
}

func TestMatchOfErrors(t *testing.T) {
	for _, s := range []string{"big * 10", "< big * 10", "= big * 10", "!= big * 10", "[big * 10..2]", "[2..big * 10]", "(1..big * 10)", "(9..big * 10)", "[null..big * 10]", `["z"..big * 10]`, "[big * 10..big * 10]", "not(big * 10)", "not([1..big * 10])", "t + t + t + t + t + t", "not(big * 10, 2)", "big * 10, 2", "3, big * 10", "not(3, big * 10)", "null = big * 10", "[1, 2, 3, 4, 5, 6, 7, 8, 9]"} {
		errs(t, s, num(2, 0), api.ErrOver)
		errs(t, s+" ", txt("a"), api.ErrOver)
	}
	matches(t, "2, big * 10", true, num(2, 0))
	errs(t, "2, big * 10", num(3, 0), api.ErrOver)
	matches(t, "not(2, big * 10)", false, num(2, 0))
	errs(t, "not(2, big * 10)", num(3, 0), api.ErrOver)
	matches(t, "[1..3], big * 10", true, num(2, 0))
	matches(t, "< 1, > 1, big * 10", true, num(2, 0))
	errs(t, "< 1, > 1, big * 10", num(1, 0), api.ErrOver)
	// what is equal to the Null that comes with an error is no hit
	errs(t, "big * 10", null(), api.ErrOver)
	errs(t, "not(!= big * 10)", null(), api.ErrOver)
	// of a range the first end's error, then the second one's, whatever the first end says
	for _, v := range few() {
		for ends := range 4 {
			lo, hi := ends&1 != 0, ends&2 != 0
			ask(t, tests(between(lo, hi, over(), faulty())), v, nil, false, api.ErrOver)
			ask(t, tests(between(lo, hi, faulty(), over())), v, nil, false, api.ErrArg)
			for _, a := range few() {
				ask(t, tests(between(lo, hi, literal(a), over())), v, nil, false, api.ErrOver)
				ask(t, tests(between(lo, hi, literal(a), faulty())), v, nil, false, api.ErrArg)
				ask(t, tests(between(lo, hi, over(), literal(a))), v, nil, false, api.ErrOver)
				ask(t, tests(none(between(lo, hi, literal(a), over()))), v, nil, false, api.ErrOver)
			}
		}
	}
}

// Each of all rows of up to four: the first one that holds, or errs, is the answer.
func TestMatchOfEachRow(t *testing.T) {
	type outcome struct {
		x     api.Test
		holds bool
		e     api.Errno
	}
	all := []outcome{
		{always(), true, api.OK}, {is(whole(2)), true, api.OK}, {is(whole(3)), false, api.OK}, {is(over()), false, api.ErrOver}, {is(faulty()), false, api.ErrArg},
		{between(true, true, whole(1), whole(2)), true, api.OK}, {between(true, true, whole(3), whole(4)), false, api.OK}, {between(true, true, whole(3), over()), false, api.ErrOver}, {between(true, true, faulty(), over()), false, api.ErrArg},
		{none(), true, api.OK}, {none(always()), false, api.OK}, {none(is(whole(2)), is(over())), false, api.OK}, {none(is(whole(3)), is(over())), false, api.ErrOver}, {api.Test{}, false, api.ErrArg},
	}
	var rows func(l []api.Test, n int, holds bool, e api.Errno)
	rows = func(l []api.Test, n int, holds bool, e api.Errno) {
		ask(t, l, num(2, 0), nil, holds, e)
		ask(t, tests(none(l...)), num(2, 0), nil, !holds && e == api.OK, e)
		if n == 0 {
			return
		}
		for _, o := range all {
			is, err := holds, e
			if !holds && e == api.OK {
				is, err = o.holds, o.e
			}
			rows(append(l[:len(l):len(l)], o.x), n-1, is, err)
		}
	}
	rows(nil, 4, false, api.OK)
}

func TestMatchOfOtherKinds(t *testing.T) {
	for _, kind := range []int{0, 5, 6, -1, math.MaxInt, math.MinInt} {
		for _, x := range []api.Test{{Kind: kind}, {Kind: kind, Rel: "=", A: whole(2)}, {Kind: kind, A: over(), B: over()}, {Kind: kind, A: whole(1), B: whole(3), Lo: true, Hi: true}, {Kind: kind, Kids: tests(always())}, {Kind: kind, Kids: tests(is(over()))}} {
			for _, v := range few() {
				ask(t, tests(x), v, nil, false, api.ErrArg)
				ask(t, tests(none(x)), v, nil, false, api.ErrArg)
				ask(t, tests(none(always()), x, always()), v, nil, false, api.ErrArg)
				ask(t, tests(always(), x), v, nil, true, api.OK)
				ask(t, tests(none(none(always(), x)), always()), v, nil, true, api.OK)
				ask(t, tests(x, is(over())), v, nil, false, api.ErrArg)
				ask(t, tests(is(over()), x), v, nil, false, api.ErrOver)
			}
		}
	}
}

// A sign that is none of the six holds of nothing; the expression may err.
func TestMatchOfOtherSigns(t *testing.T) {
	for _, rel := range []string{"", "==", "<>", "=<", "=>", "!", "in", "and", "+", " =", "= ", "\xff", strings.Repeat("<", 1<<16)} {
		for _, v := range few() {
			for _, w := range few() {
				ask(t, tests(stands(rel, literal(w))), v, nil, false, api.OK)
			}
			ask(t, tests(stands(rel, over())), v, nil, false, api.ErrOver)
			ask(t, tests(stands(rel, faulty())), v, nil, false, api.ErrArg)
			ask(t, tests(none(stands(rel, literal(v)))), v, nil, true, api.OK)
		}
	}
}

// What a test's Kind does not name is not asked.
func TestMatchOfWhatIsNotNamed(t *testing.T) {
	kids := tests(always(), is(over()), api.Test{})
	full := func(kind int) api.Test {
		return api.Test{Kind: kind, Rel: "?", A: over(), B: faulty(), Lo: true, Hi: true, Kids: kids}
	}
	x := full(api.TestAny)
	ask(t, tests(x), num(2, 0), nil, true, api.OK)
	x = full(api.TestCmp)
	x.Rel, x.A = "<", whole(3)
	ask(t, tests(x), num(2, 0), nil, true, api.OK)
	ask(t, tests(x), num(3, 0), nil, false, api.OK)
	x = full(api.TestRange)
	x.A, x.B, x.Lo, x.Hi = whole(1), whole(3), false, true
	ask(t, tests(x), num(2, 0), nil, true, api.OK)
	ask(t, tests(x), num(1, 0), nil, false, api.OK)
	x = full(api.TestNot)
	x.Kids = tests(is(whole(3)))
	ask(t, tests(x), num(2, 0), nil, true, api.OK)
	ask(t, tests(x), num(3, 0), nil, false, api.OK)
}

func TestMatchOfManyWithinOneAnother(t *testing.T) {
	const n = 1 << 16
	for _, p := range []struct {
		x api.Test
		e api.Errno
	}{{always(), api.OK}, {is(over()), api.ErrOver}, {api.Test{}, api.ErrArg}} {
		x := p.x
		for range n {
			x = none(x)
		}
		ask(t, tests(x), num(2, 0), nil, p.e == api.OK, p.e)
		ask(t, tests(none(x)), num(2, 0), nil, false, p.e)
	}
	a := whole(2)
	for range n {
		a = api.Expr{Kind: api.ExprNeg, Kids: []api.Expr{a}}
	}
	ask(t, tests(is(a)), num(2, 0), nil, true, api.OK)
	ask(t, tests(between(true, true, a, a)), num(2, 0), nil, true, api.OK)
}

// No limit of a text's is asked of a row.
func TestMatchOfManySideBySide(t *testing.T) {
	const n = 1 << 18
	l := make([]api.Test, n)
	for i := range l {
		l[i] = is(whole(i))
	}
	ask(t, l, num(n-1, 0), nil, true, api.OK)
	ask(t, l, num(n, 0), nil, false, api.OK)
	ask(t, tests(none(l...)), num(n-1, 0), nil, false, api.OK)
	ask(t, tests(none(l...)), num(n, 0), nil, true, api.OK)
	l[n-1].A = over()
	ask(t, l, num(n, 0), nil, false, api.ErrOver)
	ask(t, l, num(n-2, 0), nil, true, api.OK)
}
