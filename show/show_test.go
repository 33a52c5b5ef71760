package show_test

import (
	"math"
	"strings"
	"testing"

	"dossier/api"
	"dossier/show"
)

// pair is an expression and the text that the document asks for.
type pair struct {
	x    api.Expr
	text string
}

// tells asks for an expression's text.
func (p pair) tells(t *testing.T) {
	t.Helper()
	if s := show.Expr(p.x); s != p.text {
		t.Errorf("Expr(%#v): %q, not %q", p.x, s, p.text)
	}
}

func name(s string) api.Expr        { return api.Expr{Kind: api.ExprName, T: s} }
func text(s string) api.Expr        { return api.Expr{Kind: api.ExprText, T: s} }
func num(m, s int) api.Expr         { return api.Expr{Kind: api.ExprNum, D: api.Dec{M: m, S: s}} }
func list(l ...api.Expr) api.Expr   { return api.Expr{Kind: api.ExprList, Kids: l} }
func neg(x api.Expr) api.Expr       { return api.Expr{Kind: api.ExprNeg, Kids: []api.Expr{x}} }
func choice(l ...api.Expr) api.Expr { return api.Expr{Kind: api.ExprIf, Kids: l} }

func call(f string, l ...api.Expr) api.Expr { return api.Expr{Kind: api.ExprCall, T: f, Kids: l} }

func bin(op string, l ...api.Expr) api.Expr { return api.Expr{Kind: api.ExprBin, T: op, Kids: l} }

func within(lo, hi bool, l ...api.Expr) api.Expr {
	return api.Expr{Kind: api.ExprIn, Lo: lo, Hi: hi, Kids: l}
}

func operators() []string {
	return []string{"or", "and", "<", "<=", ">", ">=", "=", "!=", "+", "-", "*", "/"}
}

func otherKinds() []int { return []int{0, -1, -11, 12, 13, math.MaxInt, math.MinInt} }

// leaves is what has nothing within.
func leaves() []pair {
	return []pair{
		{api.Expr{Kind: api.ExprNull}, "null"},
		{api.Expr{Kind: api.ExprBool, B: true}, "true"},
		{api.Expr{Kind: api.ExprBool}, "false"},
		{num(0, 0), "0"},
		{num(7, 0), "7"},
		{num(10, 0), "10"},
		{num(25, 1), "2.5"},
		{num(5, 1), "0.5"},
		{num(1, 4), "0.0001"},
		{num(10001, 4), "1.0001"},
		{num(api.MaxM, 0), "1000000000"},
		{num(api.MaxM-1, api.MaxScale), "99999.9999"},
		{num(-1, 0), "(-1)"},
		{num(-5, 1), "(-0.5)"},
		{num(-1, 4), "(-0.0001)"},
		{num(-12345, 2), "(-123.45)"},
		{num(-api.MaxM, 0), "(-1000000000)"},
		{text(""), `""`},
		{text("t"), `"t"`},
		{text("a b"), `"a b"`},
		{text(" "), `" "`},
		{text("1 + (2"), `"1 + (2"`},
		{text("null"), `"null"`},
		{name("x"), "x"},
		{name("abcdefgh"), "abcdefgh"},
		{name(""), ""},
		{list(), "[]"},
		{call("f"), "f()"},
		{call(""), "()"},
	}
}

// branch is a kind of an expression with its number of kids, and what stands around them.
type branch struct {
	x      func(l ...api.Expr) api.Expr
	around []string
}

// of is an expression of kids that are told.
func (b branch) of(l ...pair) pair {
	var kids []api.Expr
	s := b.around[0]
	for i, p := range l {
		kids = append(kids, p.x)
		s += p.text + b.around[i+1]
	}
	return pair{b.x(kids...), s}
}

// put is an expression with p at one place and short names at the others.
func (b branch) put(at int, p pair) pair {
	l := []pair{{name("a"), "a"}, {name("b"), "b"}, {name("c"), "c"}}[:len(b.around)-1]
	l[at] = p
	return b.of(l...)
}

func branches() []branch {
	l := []branch{
		{func(l ...api.Expr) api.Expr { return neg(l[0]) }, []string{"(-", ")"}},
		{choice, []string{"(if ", " then ", " else ", ")"}},
		{list, []string{"[", "]"}},
		{list, []string{"[", ", ", "]"}},
		{list, []string{"[", ", ", ", ", "]"}},
		{func(l ...api.Expr) api.Expr { return call("f", l...) }, []string{"f(", ")"}},
		{func(l ...api.Expr) api.Expr { return call("not", l...) }, []string{"not(", ", ", ")"}},
		{func(l ...api.Expr) api.Expr { return call("g1", l...) }, []string{"g1(", ", ", ", ", ")"}},
		{func(l ...api.Expr) api.Expr { return within(true, true, l...) }, []string{"(", " in [", "..", "])"}},
		{func(l ...api.Expr) api.Expr { return within(true, false, l...) }, []string{"(", " in [", "..", "))"}},
		{func(l ...api.Expr) api.Expr { return within(false, true, l...) }, []string{"(", " in (", "..", "])"}},
		{func(l ...api.Expr) api.Expr { return within(false, false, l...) }, []string{"(", " in (", "..", "))"}},
	}
	for _, op := range operators() {
		l = append(l, branch{func(l ...api.Expr) api.Expr { return bin(op, l...) }, []string{"(", " " + op + " ", ")"}})
	}
	return l
}

func TestExprOfLeaves(t *testing.T) {
	for _, p := range leaves() {
		p.tells(t)
	}
}

func TestExprOfEachKindOnce(t *testing.T) {
	a, b, c := name("a"), name("b"), name("c")
	for _, p := range []pair{
		{bin("+", a, b), "(a + b)"},
		{bin("or", a, b), "(a or b)"},
		{bin("!=", a, b), "(a != b)"},
		{bin("", a, b), "(a  b)"},
		{bin("what it is", a, b), "(a what it is b)"},
		{neg(a), "(-a)"},
		{neg(num(1, 0)), "(-1)"},
		{neg(num(-1, 0)), "(-(-1))"},
		{neg(neg(a)), "(-(-a))"},
		{choice(a, b, c), "(if a then b else c)"},
		{list(a), "[a]"},
		{list(a, b), "[a, b]"},
		{list(a, b, c, a, b, c, a, b, c, a), "[a, b, c, a, b, c, a, b, c, a]"},
		{call("f", a), "f(a)"},
		{call("f", a, b, c), "f(a, b, c)"},
		{call("", a), "(a)"},
		{within(true, true, a, b, c), "(a in [b..c])"},
		{within(true, false, a, b, c), "(a in [b..c))"},
		{within(false, true, a, b, c), "(a in (b..c])"},
		{within(false, false, a, b, c), "(a in (b..c))"},
		{within(true, false, num(-1, 0), num(-25, 1), num(5, 1)), "((-1) in [(-2.5)..0.5))"},
		{bin("-", num(1, 0), num(-2, 0)), "(1 - (-2))"},
		{bin("*", bin("+", a, b), c), "((a + b) * c)"},
		{bin("+", a, bin("*", b, c)), "(a + (b * c))"},
		{list(list(), list(list(a), b), call("f", list(), call("g"))), "[[], [[a], b], f([], g())]"},
	} {
		p.tells(t)
	}
}

// Each kind stands at each place of each other, and these again.
func TestExprOfEachKindWithinOthers(t *testing.T) {
	for _, outer := range branches() {
		for i := range len(outer.around) - 1 {
			for _, p := range leaves() {
				outer.put(i, p).tells(t)
			}
			for _, inner := range branches() {
				for k := range len(inner.around) - 1 {
					for _, p := range leaves() {
						outer.put(i, inner.put(k, p)).tells(t)
					}
				}
			}
		}
	}
}

// Kids are told in their order, and each once.
func TestExprOfDifferentKids(t *testing.T) {
	for _, b := range branches() {
		for _, x := range branches() {
			for _, y := range branches() {
				l := []pair{x.put(0, pair{name("x"), "x"}), y.put(0, pair{num(-3, 1), "(-0.3)"}), {list(), "[]"}}
				b.of(l[:len(b.around)-1]...).tells(t)
			}
		}
	}
}

// wrongs is what is told as ?: it is of no Kind, or has not its Kind's number of kids.
func wrongs() []api.Expr {
	l := []api.Expr{{}}
	kids := []api.Expr{name("a"), name("b"), name("c"), name("d"), name("e")}
	for _, kind := range otherKinds() {
		l = append(l, api.Expr{Kind: kind}, api.Expr{Kind: kind, B: true, D: api.Dec{M: 1}, T: "x", Lo: true, Hi: true})
		for n := range len(kids) + 1 {
			l = append(l, api.Expr{Kind: kind, T: "+", Kids: kids[:n]})
		}
	}
	for n := range len(kids) + 1 {
		if n != 1 {
			l = append(l, api.Expr{Kind: api.ExprNeg, Kids: kids[:n]})
		}
		if n != 2 {
			l = append(l, bin("+", kids[:n]...))
		}
		if n != 3 {
			l = append(l, choice(kids[:n]...), within(true, false, kids[:n]...))
		}
	}
	return append(l, bin("or"), within(false, true), bin("and", make([]api.Expr, 1000)...))
}

func TestExprOfWrongs(t *testing.T) {
	for _, w := range wrongs() {
		p := pair{w, "?"}
		p.tells(t)
		for _, outer := range branches() {
			for i := range len(outer.around) - 1 {
				outer.put(i, p).tells(t)
				branches()[0].put(0, outer.put(i, p)).tells(t)
			}
		}
	}
}

// What is wrong hides no more than itself.
func TestExprOfWrongsBesideOthers(t *testing.T) {
	a := name("a")
	for _, p := range []pair{
		{neg(api.Expr{}), "(-?)"},
		{list(api.Expr{}, num(-5, 1)), "[?, (-0.5)]"},
		{list(a, api.Expr{Kind: 12}, a), "[a, ?, a]"},
		{call("f", api.Expr{}, api.Expr{}), "f(?, ?)"},
		{bin("+", bin("+", a), a), "(? + a)"},
		{bin("+", a, bin("+", a, a, a)), "(a + ?)"},
		{choice(a, choice(a, a), a), "(if a then ? else a)"},
		{within(true, false, api.Expr{}, a, within(true, true)), "(? in [a..?))"},
		{choice(a, api.Expr{}), "?"},
	} {
		p.tells(t)
	}
}

// Kinds without a number of kids are told with whatever kids they have, and
// no Kind by a field that it does not name.
func TestExprOfFieldsThatAreNotNamed(t *testing.T) {
	more := api.Expr{B: true, D: api.Dec{M: -77, S: 1}, T: "zz", Lo: true, Hi: true, Kids: []api.Expr{name("k"), {}}}
	with := func(f func(x *api.Expr)) api.Expr {
		x := more
		f(&x)
		return x
	}
	a := []api.Expr{name("a"), name("b"), name("c")}
	for _, p := range []pair{
		{with(func(x *api.Expr) { x.Kind = api.ExprNull }), "null"},
		{with(func(x *api.Expr) { x.Kind = api.ExprBool }), "true"},
		{with(func(x *api.Expr) { x.Kind, x.B = api.ExprBool, false }), "false"},
		{with(func(x *api.Expr) { x.Kind = api.ExprNum }), "(-7.7)"},
		{with(func(x *api.Expr) { x.Kind = api.ExprText }), `"zz"`},
		{with(func(x *api.Expr) { x.Kind = api.ExprName }), "zz"},
		{with(func(x *api.Expr) { x.Kind, x.Kids = api.ExprBin, a[:2] }), "(a zz b)"},
		{with(func(x *api.Expr) { x.Kind, x.Kids = api.ExprNeg, a[:1] }), "(-a)"},
		{with(func(x *api.Expr) { x.Kind, x.Kids = api.ExprIf, a }), "(if a then b else c)"},
		{with(func(x *api.Expr) { x.Kind = api.ExprList }), "[k, ?]"},
		{with(func(x *api.Expr) { x.Kind = api.ExprCall }), "zz(k, ?)"},
		{with(func(x *api.Expr) { x.Kind, x.Kids = api.ExprIn, a }), "(a in [b..c])"},
		{with(func(x *api.Expr) { x.Kind = 12 }), "?"},
	} {
		p.tells(t)
	}
}

func TestExprOfNilAndEmptyKids(t *testing.T) {
	for _, kids := range [][]api.Expr{nil, {}, make([]api.Expr, 0, 3)} {
		pair{list(kids...), "[]"}.tells(t)
		pair{call("f", kids...), "f()"}.tells(t)
		for _, kind := range []int{api.ExprBin, api.ExprNeg, api.ExprIf, api.ExprIn} {
			pair{api.Expr{Kind: kind, T: "+", Kids: kids}, "?"}.tells(t)
		}
	}
}

// T is told byte by byte as it is.
func TestExprOfAnyBytes(t *testing.T) {
	a, b := name("a"), name("b")
	for _, s := range []string{"\"", "\\", "\n", "\x00", "\xff\xfe", "\xed\xa0\x80", "ä€", "a\"b", "%s %d", strings.Repeat("x", 1<<20), strings.Repeat("\xff", 1000)} {
		pair{text(s), "\"" + s + "\""}.tells(t)
		pair{name(s), s}.tells(t)
		pair{call(s, a, b), s + "(a, b)"}.tells(t)
		pair{bin(s, a, b), "(a " + s + " b)"}.tells(t)
	}
}

// Example of the chapter.
func TestExprOfTheExample(t *testing.T) {
	pair{bin("+", num(1, 0), bin("*", num(2, 0), name("x"))), "(1 + (2 * x))"}.tells(t)
}
