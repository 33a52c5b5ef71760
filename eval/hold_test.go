package eval_test

import (
	"math"
	"reflect"
	"strings"
	"testing"

	"dossier/api"
	"dossier/eval"
	"dossier/show"
	"dossier/val"
)

// unsound is values that may not be.
func unsound() []api.Val {
	round := make([]api.Val, 1)
	round[0] = list(round...) // it holds itself
	deep := list()
	for range 1 << 16 {
		deep = list(deep)
	}
	return []api.Val{{Kind: -1}, {Kind: 5}, {Kind: math.MaxInt}, num(10, 1), num(math.MinInt, 0), num(1, math.MinInt), num(1, math.MaxInt), txt("\""), txt(strings.Repeat("x", 1<<20)), list(make([]api.Val, 9)...), list(list(list())), list(num(10, 1)), {B: true}, {T: "x"}, {Kind: api.Num, T: "x"}, {Kind: api.Bool, L: make([]api.Val, 1)}, list(round...), deep}
}

// roomy is a list with something in the spare room behind its end.
func roomy(l ...api.Val) api.Val {
	return list(append(l, txt("spare"), txt("room"))[:len(l)]...)
}

// open is a value with the spare room behind its lists' ends as elements, in memory of its own.
func open(v api.Val) api.Val {
	l := v.L[:cap(v.L)]
	v.L = nil
	for _, w := range l {
		v.L = append(v.L, open(w))
	}
	return v
}

func openBinds(l []api.Bind) []api.Bind {
	var all []api.Bind
	for _, b := range l[:cap(l)] {
		all = append(all, api.Bind{Name: b.Name, V: open(b.V)})
	}
	return all
}

func openExpr(x api.Expr) api.Expr {
	kids := x.Kids[:cap(x.Kids)]
	x.Kids = nil
	for _, k := range kids {
		x.Kids = append(x.Kids, openExpr(k))
	}
	return x
}

// spoil overwrites all lists of a value and the spare room behind them.
func spoil(v api.Val) {
	for _, w := range v.L {
		spoil(w)
	}
	l := v.L[:cap(v.L)]
	for i := range l {
		l[i] = txt("spoilt")
	}
}

// rooms is binds whose lists have spare room, some of it shared with one another.
func rooms() []api.Bind {
	l := roomy(num(1, 0), txt("a"))
	bare := num(7, 0)
	bare.L = make([]api.Val, 0, 3)
	all := []api.Bind{{Name: "l", V: l}, {Name: "k", V: l}, {Name: "n", V: roomy(l, roomy(), l, roomy(null()))}, {Name: "e", V: roomy()}, {Name: "x", V: bare}, {Name: "l", V: num(0, 0)}, {Name: "spare", V: list()}}
	return all[:6]
}

// spread is an expression of every Kind, with spare room behind all its kids.
func spread() api.Expr {
	of := func(l ...api.Expr) []api.Expr { return append(l, wrong(), over())[:len(l)] }
	in := within(true, false, of(name("x"), xnum(-1, 0), xnum(25, 1))...)
	up := choice(of(bin("or", of(in, xyes(true))...), name("l"), neg(of(xnull())...))...)
	return row(of(up, name("l"), name("k"), row(of(xtxt("t"), call("sum", of(name("x"), xnum(1, 0))...))...), name("e"), row(), name("x"))...)
}

const spreadText = `[[1, "a"], [1, "a"], [1, "a"], ["t", 8], [], [], 7]`

func TestEvalChangesNothing(t *testing.T) {
	x, env := spread(), rooms()
	keptX, keptEnv := openExpr(x), openBinds(env)
	for range 3 {
		is(t, x, env, spreadText, api.OK)
		is(t, call("has", name("n"), name("l")), env, "true", api.OK)
		is(t, call("count", name("n")), env, "4", api.OK)
		is(t, row(name("n")), env, "null", api.ErrOver)
		if !reflect.DeepEqual(openExpr(x), keptX) || !reflect.DeepEqual(openBinds(env), keptEnv) {
			t.Fatal("what is handed in is changed")
		}
	}
}

// whole answers: the ways by which a list of env may come out.
func ways() map[string]api.Expr {
	return map[string]api.Expr{
		`[1, "a"]`:                         name("l"),
		`[[1, "a"], [], [1, "a"], [null]]`: name("n"),
		`[]`:                               name("e"),
		`[[], [1, "a"], [1, "a"], []]`:     row(name("e"), name("l"), name("l"), name("e")),
		`[[1, "a"], [1, "a"]]`:             row(choice(xyes(true), name("l"), name("k")), choice(xyes(false), name("l"), name("k"))),
		`[7, [7]]`:                         row(name("x"), row(name("x"))),
		`7`:                                name("x"),
		spreadText:                         spread(),
	}
}

func TestAnswersShareNothingWithWhatIsHandedIn(t *testing.T) {
	for want, x := range ways() {
		env := rooms()
		kept := openBinds(env)
		v, e := eval.Eval(x, env)
		if show.Val(v) != want || e != api.OK {
			t.Fatalf("%s, %v; not %s", show.Val(v), e, want)
		}
		spoil(v)
		if !reflect.DeepEqual(openBinds(env), kept) {
			t.Errorf("%s: a change of it is one of env", want)
		}
		v, _ = eval.Eval(x, env)
		w, _ := eval.Eval(x, env)
		for _, b := range env {
			spoil(b.V)
		}
		clear(env[:cap(env)])
		clear(x.Kids[:cap(x.Kids)])
		if show.Val(v) != want {
			t.Errorf("%s: a change of env is one of it: %s", want, show.Val(v))
		}
		spoil(v)
		if show.Val(w) != want {
			t.Errorf("%s: two answers share memory: %s", want, show.Val(w))
		}
	}
}

// No two lists of one answer share any memory, nor the room behind their ends.
func TestListsOfOneAnswerShareNothing(t *testing.T) {
	for want, x := range ways() {
		whole, _ := eval.Eval(x, rooms())
		for i := range whole.L {
			v, _ := eval.Eval(x, rooms())
			if v.L[i].Kind != api.List {
				continue
			}
			spoil(v.L[i])
			for j := range v.L {
				if j != i && show.Val(v.L[j]) != show.Val(whole.L[j]) {
					t.Errorf("%s: a change of the list at %d is one of %d", want, i, j)
				}
			}
			for j := range v.L {
				if j != i {
					_ = append(v.L[j].L, txt("behind"))
				}
			}
			if strings.Contains(show.Val(open(v.L[i])), "behind") {
				t.Errorf("%s: the list at %d shares the room behind another", want, i)
			}
		}
	}
}

// Of others than lists no row comes along, not even an empty one with room.
func TestAnswersOfNoListHaveNoRoom(t *testing.T) {
	env := rooms()
	for _, x := range []api.Expr{name("x"), neg(name("x")), bin("+", name("x"), name("x")), bin("and", name("l"), name("n")), bin("=", name("l"), name("l")), choice(xyes(true), name("x"), name("l")), call("min", name("x")), call("max", row(name("x"), name("x"))), call("abs", name("x")), call("count", name("l")), call("nil", name("l")), within(true, true, name("x"), name("x"), name("x"))} {
		if v, e := eval.Eval(x, env); e != api.OK || cap(v.L) != 0 {
			t.Errorf("%s: %v, with room for %d", show.Expr(x), e, cap(v.L))
		}
	}
}

// What an expression is hangs on nothing that was asked before.
func TestEvalKeepsNothing(t *testing.T) {
	x := bin("+", name("a"), name("b"))
	for n := range 50 {
		env := []api.Bind{{Name: "a", V: num(n+1, 0)}, {Name: "b", V: txt("b")}}
		is(t, x, env, "null", api.OK)
		env[1].V = num(1000, 0)
		want, _ := eval.Eval(xnum(n+1001, 0), nil)
		is(t, x, env, show.Val(want), api.OK)
		is(t, x, nil, "null", api.OK)
		is(t, bin("+", over(), x), env, "null", api.ErrOver)
	}
}

// Of values in env that may not be nothing is said; but it ends, and what is answered may be.
func TestEvalOfValuesThatMayNotBe(t *testing.T) {
	for _, v := range unsound() {
		env := []api.Bind{{Name: "v", V: v}, {Name: "x", V: num(5, 0)}}
		is(t, name("x"), env, "5", api.OK)
		for _, place := range places() {
			for i := range 3 {
				k := [3]api.Expr{name("x"), name("x"), name("x")}
				k[i] = name("v")
				x, _ := place(k)
				if w, _ := eval.Eval(x, env); !val.Is(w) {
					t.Errorf("%s of Kind %d: what may not be", show.Expr(x), v.Kind)
				}
			}
		}
		for _, x := range []api.Expr{name("v"), row(name("v")), row(row(name("v"))), choice(name("v"), name("v"), name("v"))} {
			if w, _ := eval.Eval(x, env); !val.Is(w) {
				t.Errorf("%s of Kind %d: what may not be", show.Expr(x), v.Kind)
			}
		}
	}
}

func TestEvalOfManyWithinOneAnother(t *testing.T) {
	const n = 1 << 16
	one, yes := xnum(1, 0), xyes(true)
	for _, x := range []struct {
		leaf api.Expr
		put  func(k api.Expr) api.Expr
		want string
		e    api.Errno
	}{
		{one, func(k api.Expr) api.Expr { return neg(k) }, "1", api.OK},
		{one, func(k api.Expr) api.Expr { return bin("+", k, one) }, "65537", api.OK},
		{one, func(k api.Expr) api.Expr { return bin("-", one, k) }, "1", api.OK},
		{yes, func(k api.Expr) api.Expr { return bin("and", k, yes) }, "true", api.OK},
		{yes, func(k api.Expr) api.Expr { return choice(k, yes, over()) }, "true", api.OK},
		{one, func(k api.Expr) api.Expr { return choice(yes, k, over()) }, "1", api.OK},
		{one, func(k api.Expr) api.Expr { return choice(xnull(), wrong(), k) }, "1", api.OK},
		{one, func(k api.Expr) api.Expr { return call("sum", k, one) }, "65537", api.OK},
		{yes, func(k api.Expr) api.Expr { return call("not", k) }, "true", api.OK},
		{one, func(k api.Expr) api.Expr { return call("f", one, k) }, "null", api.OK},
		{one, func(k api.Expr) api.Expr { return within(true, true, k, one, one) }, "null", api.OK},
		{one, func(k api.Expr) api.Expr { return within(true, true, one, one, k) }, "null", api.OK},
		{one, func(k api.Expr) api.Expr { return row(k) }, "null", api.ErrOver},
		{wrong(), func(k api.Expr) api.Expr { return row(one, k) }, "null", api.ErrArg},
	} {
		e := x.leaf
		for range n {
			e = x.put(e)
		}
		v, err := eval.Eval(e, nil)
		if show.Val(v) != x.want || err != x.e || !val.Is(v) {
			t.Errorf("%d of Kind %d: %s, %v; not %s, %v", n, e.Kind, show.Val(v), err, x.want, x.e)
		}
	}
}

func TestEvalOfManySideBySide(t *testing.T) {
	const n = 1 << 18
	kids := make([]api.Expr, n)
	for i := range kids {
		kids[i] = xnum(i+1, 0)
	}
	check := func(x api.Expr, want string, e api.Errno) {
		t.Helper()
		v, err := eval.Eval(x, nil)
		if show.Val(v) != want || err != e {
			t.Errorf("many of Kind %d, %s: %s, %v; not %s, %v", x.Kind, x.T, show.Val(v), err, want, e)
		}
	}
	check(row(kids...), "null", api.ErrOver)
	check(call("min", kids...), "1", api.OK)
	check(call("max", kids...), "262144", api.OK)
	check(call("sum", kids...), "null", api.ErrOver)
	check(call("sum", kids[:40000]...), "800020000", api.OK)
	check(call("cat", kids...), "null", api.OK)
	check(call("f", kids...), "null", api.OK)
	for _, x := range []api.Expr{bin("+", kids...), neg(kids...), choice(kids...), within(true, true, kids...), {Kind: 12, Kids: kids}} {
		check(x, "null", api.ErrArg)
	}
	env := make([]api.Bind, n)
	for i := range env {
		env[i] = api.Bind{Name: "v", V: num(i, 0)}
	}
	env[n-1].Name = "last"
	is(t, bin("-", name("last"), name("v")), env, "262143", api.OK)
}
