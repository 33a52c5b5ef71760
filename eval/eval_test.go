package eval_test

import (
	"math"
	"strings"
	"testing"

	"dossier/api"
	"dossier/eval"
	"dossier/feel"
	"dossier/show"
	"dossier/val"
)

func null() api.Val             { return api.Val{} }
func yes(b bool) api.Val        { return api.Val{Kind: api.Bool, B: b} }
func num(m, s int) api.Val      { return api.Val{Kind: api.Num, D: api.Dec{M: m, S: s}} }
func txt(s string) api.Val      { return api.Val{Kind: api.Text, T: s} }
func list(l ...api.Val) api.Val { return api.Val{Kind: api.List, L: l} }

// made is an expression of a Kind, of a text and of kids.
func made(kind int, t string, kids ...api.Expr) api.Expr {
	return api.Expr{Kind: kind, T: t, Kids: kids}
}

func xnull() api.Expr        { return made(api.ExprNull, "") }
func xyes(b bool) api.Expr   { return api.Expr{Kind: api.ExprBool, B: b} }
func xnum(m, s int) api.Expr { return api.Expr{Kind: api.ExprNum, D: api.Dec{M: m, S: s}} }
func xtxt(s string) api.Expr { return made(api.ExprText, s) }
func name(s string) api.Expr { return made(api.ExprName, s) }

func bin(op string, kids ...api.Expr) api.Expr { return made(api.ExprBin, op, kids...) }
func neg(kids ...api.Expr) api.Expr            { return made(api.ExprNeg, "", kids...) }
func choice(kids ...api.Expr) api.Expr         { return made(api.ExprIf, "", kids...) }
func row(kids ...api.Expr) api.Expr            { return made(api.ExprList, "", kids...) }
func call(f string, kids ...api.Expr) api.Expr { return made(api.ExprCall, f, kids...) }

func within(lo, hi bool, kids ...api.Expr) api.Expr {
	return api.Expr{Kind: api.ExprIn, Lo: lo, Hi: hi, Kids: kids}
}

// over is what errs with ErrOver, wrong with ErrArg.
func over() api.Expr  { return bin("*", xnum(api.MaxM, 0), xnum(api.MaxM, 0)) }
func wrong() api.Expr { return api.Expr{} }

func operators() []string {
	return []string{"or", "and", "<", "<=", ">", ">=", "=", "!=", "+", "-", "*", "/"}
}

func calls() []string {
	return []string{"abs", "floor", "ceil", "not", "mod", "len", "count", "has", "cat", "min", "max", "sum"}
}

// file is names of each Kind of values.
func file() []api.Bind {
	return []api.Bind{
		{Name: "x", V: num(5, 0)}, {Name: "h", V: num(25, 1)}, {Name: "big", V: num(api.MaxM, 0)},
		{Name: "t", V: txt("abc")}, {Name: "u", V: txt("")}, {Name: "full", V: txt("sixteen bytes xx")},
		{Name: "yes", V: yes(true)}, {Name: "no", V: yes(false)}, {Name: "nil", V: null()},
		{Name: "l", V: list(num(1, 0), num(25, 1))}, {Name: "e", V: list()}, {Name: "n", V: list(list(num(1, 0)))}, {Name: "m", V: list(num(1, 0), txt("a"))},
	}
}

// ask is an expression's text, the text of the value that the document asks for, and the error.
type ask struct {
	s, want string
	e       api.Errno
}

func asked(t *testing.T, all []ask) {
	t.Helper()
	for _, a := range all {
		x, _, e := feel.Parse(a.s)
		if e != api.OK {
			t.Errorf("%s: can not be read: %v", a.s, e)
		}
		is(t, x, file(), a.want, a.e)
	}
}

// is asks for an expression's value, by its text. What is answered may be, so
// that of an error it is Null and nothing else.
func is(t *testing.T, x api.Expr, env []api.Bind, want string, e api.Errno) {
	t.Helper()
	v, got := eval.Eval(x, env)
	if show.Val(v) != want || got != e || !val.Is(v) {
		t.Errorf("Eval(%.200s): %.200s, %v, may be: %t; not %s, %v", show.Expr(x), show.Val(v), got, val.Is(v), want, e)
	}
}

// leaf is an expression without kids, and its value's text.
type leaf struct {
	x    api.Expr
	want string
}

func leaves() []leaf {
	return []leaf{
		{xnull(), "null"}, {xyes(true), "true"}, {xyes(false), "false"},
		{xnum(0, 0), "0"}, {xnum(7, 0), "7"}, {xnum(10, 0), "10"}, {xnum(-25, 1), "-2.5"}, {xnum(1, 4), "0.0001"}, {xnum(api.MaxM, 0), "1000000000"}, {xnum(-api.MaxM, 0), "-1000000000"}, {xnum(999999999, 4), "99999.9999"},
		{xtxt(""), `""`}, {xtxt("a b"), `"a b"`}, {xtxt(" !#~"), `" !#~"`}, {xtxt("sixteen bytes xx"), `"sixteen bytes xx"`},
		{name("x"), "5"}, {name("t"), `"abc"`}, {name("no"), "false"}, {name("nil"), "null"}, {name("n"), "[[1]]"}, {name("none"), "null"},
		{row(), "[]"}, {call("f"), "null"}, {call("sum"), "null"},
	}
}

func TestEvalOfLeaves(t *testing.T) {
	for _, l := range leaves() {
		is(t, l.x, file(), l.want, api.OK)
	}
}

// Kids of what has none are not looked at, however many there are.
func TestEvalOfKidsThatAreNone(t *testing.T) {
	for _, l := range leaves() {
		if l.x.Kind > api.ExprName {
			continue
		}
		for n := 1; n < 5; n++ {
			for _, k := range []api.Expr{over(), wrong(), xnum(10, 1), xyes(true), row(over())} {
				l.x.Kids = make([]api.Expr, n)
				for i := range n {
					l.x.Kids[i] = k
				}
				is(t, l.x, file(), l.want, api.OK)
			}
		}
	}
}

// What a Kind does not name is not looked at, and does not come through.
func TestEvalOfFieldsThatAreNotNamed(t *testing.T) {
	a, b, c := xnum(4, 0), xnum(2, 0), xnum(3, 0)
	for _, x := range []struct {
		kind int
		kids []api.Expr
		want string
	}{
		{api.ExprNull, nil, "null"}, {api.ExprNeg, []api.Expr{a}, "-4"}, {api.ExprIf, []api.Expr{xyes(true), b, c}, "2"}, {api.ExprIf, []api.Expr{a, b, c}, "3"}, {api.ExprList, []api.Expr{a, b}, "[4, 2]"}, {api.ExprIn, []api.Expr{a, b, c}, "false"},
	} {
		is(t, api.Expr{Kind: x.kind, B: true, D: api.Dec{M: 10, S: 1}, T: "+\"", Lo: true, Hi: true, Kids: x.kids}, nil, x.want, api.OK)
	}
	bad := api.Dec{M: 10, S: 1}
	is(t, api.Expr{Kind: api.ExprBool, B: true, D: bad, T: "\"", Lo: true, Hi: true}, nil, "true", api.OK)
	is(t, api.Expr{Kind: api.ExprBool, D: bad, T: "\"", Lo: true, Hi: true}, nil, "false", api.OK)
	is(t, api.Expr{Kind: api.ExprNum, B: true, D: api.Dec{M: 5, S: 1}, T: "\"", Lo: true, Hi: true}, nil, "0.5", api.OK)
	is(t, api.Expr{Kind: api.ExprText, B: true, D: bad, T: "a", Lo: true, Hi: true}, nil, `"a"`, api.OK)
	is(t, api.Expr{Kind: api.ExprName, B: true, D: bad, T: "x", Lo: true, Hi: true}, file(), "5", api.OK)
	is(t, api.Expr{Kind: api.ExprBin, B: true, D: bad, T: "-", Lo: true, Hi: true, Kids: []api.Expr{a, b}}, nil, "2", api.OK)
	is(t, api.Expr{Kind: api.ExprCall, B: true, D: bad, T: "max", Lo: true, Hi: true, Kids: []api.Expr{a, b}}, nil, "4", api.OK)
}

func TestEvalOfOtherKinds(t *testing.T) {
	for _, kind := range []int{0, -1, -11, 12, 13, 256 + api.ExprNull, 1<<32 + api.ExprNum, math.MaxInt, math.MinInt} {
		for n := range 4 {
			for _, k := range []api.Expr{over(), xnum(1, 0)} {
				x := api.Expr{Kind: kind, B: true, T: "+", D: api.Dec{M: 1}, Kids: []api.Expr{k, k, k}[:n]}
				is(t, x, file(), "null", api.ErrArg)
				is(t, row(xnum(1, 0), x), file(), "null", api.ErrArg)
			}
		}
	}
}

func TestEvalOfNumbersThatMayNotBe(t *testing.T) {
	for _, d := range [][2]int{{10, 1}, {0, 1}, {-20, 2}, {1, 5}, {1, -1}, {api.MaxM + 1, 0}, {-api.MaxM - 1, 0}, {math.MaxInt, 0}, {math.MinInt, 0}, {1, math.MaxInt}, {1, math.MinInt}} {
		x := xnum(d[0], d[1])
		is(t, x, nil, "null", api.ErrArg)
		is(t, bin("=", xnull(), x), nil, "null", api.ErrArg)
		x.Kids = []api.Expr{over()}
		is(t, x, nil, "null", api.ErrArg)
	}
}

func TestEvalOfTextsThatMayNotBe(t *testing.T) {
	for n := range 40 {
		s := strings.Repeat("x", n)
		if n <= api.MaxText {
			is(t, xtxt(s), nil, "\""+s+"\"", api.OK)
			continue
		}
		is(t, xtxt(s), nil, "null", api.ErrArg)
	}
	for c := range 256 {
		for _, s := range []string{string([]byte{byte(c)}), string([]byte{'a', byte(c), 'b'})} {
			if c >= 0x20 && c <= 0x7e && c != '"' {
				is(t, xtxt(s), nil, "\""+s+"\"", api.OK)
				continue
			}
			is(t, xtxt(s), nil, "null", api.ErrArg)
			is(t, call("len", xtxt(s)), nil, "null", api.ErrArg)
		}
	}
	for _, s := range []string{"\u00e4", "\xff\xfe", strings.Repeat("x", 1<<20)} {
		is(t, xtxt(s), nil, "null", api.ErrArg)
	}
}

// Bin, Neg, If and In ask for their number of kids ahead of all kids' errors.
func TestEvalOfOtherNumbersOfKids(t *testing.T) {
	for n := range 7 {
		for _, k := range []api.Expr{over(), wrong(), xnum(1, 0), xyes(true)} {
			kids := make([]api.Expr, n)
			for i := range kids {
				kids[i] = k
			}
			if n != 1 {
				is(t, neg(kids...), nil, "null", api.ErrArg)
			}
			if n != 2 {
				for _, op := range append(operators(), "", "?") {
					is(t, bin(op, kids...), nil, "null", api.ErrArg)
				}
			}
			if n != 3 {
				is(t, choice(kids...), nil, "null", api.ErrArg)
				is(t, within(n%2 == 0, n > 3, kids...), nil, "null", api.ErrArg)
			}
		}
	}
}

func TestEvalOfNames(t *testing.T) {
	env := []api.Bind{{Name: "a", V: num(1, 0)}, {Name: "b", V: null()}, {Name: "a", V: num(2, 0)}, {Name: "b", V: num(3, 0)}, {Name: "", V: txt("none")}, {Name: "a", V: txt("x")}, {Name: "long names may be", V: yes(true)}, {Name: "\xff\"", V: yes(false)}, {Name: "c", V: list(null())}, {Name: "c", V: list()}, {Name: "aa", V: txt("aa")}}
	for _, x := range []struct{ name, want string }{
		{"a", "1"}, {"b", "null"}, {"", `"none"`}, {"long names may be", "true"}, {"\xff\"", "false"}, {"c", "[null]"}, {"aa", `"aa"`},
		{"A", "null"}, {"d", "null"}, {" a", "null"}, {"a ", "null"}, {"aaa", "null"}, {"true", "null"}, {"long names may b", "null"},
	} {
		is(t, name(x.name), env, x.want, api.OK)
		is(t, row(name(x.name), xnum(1, 0)), env, "["+x.want+", 1]", api.OK)
		is(t, name(x.name), nil, "null", api.OK)
		is(t, name(x.name), []api.Bind{}, "null", api.OK)
		is(t, name(x.name), env[:0], "null", api.OK)
	}
	is(t, name("c"), env[:8], "null", api.OK)
	is(t, name("c"), env[9:], "[]", api.OK)
	is(t, call("x", name("x")), file(), "null", api.OK)
}
