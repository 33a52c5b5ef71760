package cell_test

import (
	"reflect"
	"strings"
	"testing"

	"dossier/api"
	"dossier/cell"
	"dossier/val"
)

// roomy is tests with something in the spare room behind their end.
func roomy(l ...api.Test) []api.Test { return append(l, is(name("spare")), api.Test{})[:len(l)] }

func roomyKids(l ...api.Expr) []api.Expr { return append(l, name("spare"), over())[:len(l)] }

func roomyList(l ...api.Val) api.Val { return list(append(l, txt("spare"), txt("room"))[:len(l)]...) }

// open is tests with the spare room behind all lists' ends as elements, in memory of its own.
func open(l []api.Test) []api.Test {
	var all []api.Test
	for _, x := range l[:cap(l)] {
		x.A, x.B, x.Kids = openExpr(x.A), openExpr(x.B), open(x.Kids)
		all = append(all, x)
	}
	return all
}

func openExpr(x api.Expr) api.Expr {
	kids := x.Kids[:cap(x.Kids)]
	x.Kids = nil
	for _, k := range kids {
		x.Kids = append(x.Kids, openExpr(k))
	}
	return x
}

func openVal(v api.Val) api.Val {
	l := v.L[:cap(v.L)]
	v.L = nil
	for _, w := range l {
		v.L = append(v.L, openVal(w))
	}
	return v
}

func openBinds(l []api.Bind) []api.Bind {
	var all []api.Bind
	for _, b := range l[:cap(l)] {
		all = append(all, api.Bind{Name: b.Name, V: openVal(b.V)})
	}
	return all
}

// spread is tests of each Kind, none of which holds of held, with spare room
// behind all their lists.
func spread() []api.Test {
	sum := api.Expr{Kind: api.ExprCall, T: "sum", Kids: roomyKids(name("l"))}
	pair := api.Expr{Kind: api.ExprList, Kids: roomyKids(name("l"), sum)}
	return roomy(is(pair), between(true, false, sum, pair), none(roomy(none(roomy(is(pair))...), always())...), none(roomy(none(roomy()...))...))
}

func held() api.Val { return roomyList(roomyList(num(1, 0), num(2, 0)), num(4, 0)) }

func binds() []api.Bind {
	l := []api.Bind{{Name: "k", V: roomyList()}, {Name: "l", V: roomyList(num(1, 0), num(2, 0))}, {Name: "spare", V: num(1, 0)}}
	return l[:2]
}

func TestMatchAndSameChangeNothing(t *testing.T) {
	l, m, v, env := spread(), spread(), held(), binds()
	keptL, keptM, keptV, keptEnv := open(l), open(m), openVal(v), openBinds(env)
	for range 3 {
		ask(t, l, v, env, false, api.OK)
		ask(t, l, v.L[0], env, false, api.OK)
		same(t, l, m, true)
		same(t, l, m[1:], false)
		changed := !reflect.DeepEqual(open(l), keptL) || !reflect.DeepEqual(open(m), keptM)
		if changed || !reflect.DeepEqual(openVal(v), keptV) || !reflect.DeepEqual(openBinds(env), keptEnv) {
			t.Fatal("what is handed in is changed")
		}
	}
}

// A call's answer hangs on what it is given then, on nothing of an earlier call.
func TestMatchKeepsNothing(t *testing.T) {
	l, env := tests(is(name("x")), between(true, true, name("y"), name("y"))), []api.Bind{{Name: "x", V: num(1, 0)}, {Name: "y", V: num(2, 0)}}
	for n := range 50 {
		env[0].V, env[1].V = num(10*n, 0), num(10*n+1, 0)
		ask(t, l, num(10*n, 0), env, true, api.OK)
		ask(t, l, num(10*n+1, 0), env, true, api.OK)
		ask(t, l, num(10*n+2, 0), env, false, api.OK)
		ask(t, l, num(10*n, 0), nil, false, api.OK)
		l[0].Rel = "!="
		ask(t, l, num(10*n, 0), env, false, api.OK)
		l[0].Rel = "="
		ask(t, tests(is(over()), l[0]), num(10*n, 0), env, false, api.ErrOver)
	}
}

func TestSameKeepsNothing(t *testing.T) {
	a, b := tests(none(is(whole(0)))), tests(none(is(whole(0))))
	for n := range 50 {
		same(t, a, b, true)
		a[0].Kids[0].A = whole(n + 1)
		same(t, a, b, false)
		b[0].Kids[0].A = whole(n + 1)
	}
}

// What is read can be used and changed, and its text be read again.
func TestParsedIsTheCallers(t *testing.T) {
	const s = "not([f(1)..2], < x)"
	a, b := parsed(t, s), parsed(t, s)
	want := told(b)
	ask(t, a, num(1, 0), file(), false, api.OK)
	spoil(a)
	if told(b) != want || told(parsed(t, s)) != want {
		t.Error("a change of one answer is one of another")
	}
	for i := range b[0].Kids {
		b[0].Kids = append(b[0].Kids[:i:i], b[0].Kids[i:]...)
	}
	if told(b) != want {
		t.Error("an answer has a list that is not its own")
	}
}

// unsound is values that may not be.
func unsound() []api.Val {
	deep := list()
	for range 1 << 10 {
		deep = list(deep)
	}
	return []api.Val{{Kind: -1}, {Kind: 5}, num(10, 1), num(1, -1), num(1, 1<<40), num(-1<<63, 0), txt("\""), txt(strings.Repeat("x", 1<<16)), list(make([]api.Val, 9)...), list(num(10, 1)), {B: true}, {Kind: api.Num, T: "x"}, deep}
}

// W1: of values that may not be nothing is said; but each call ends, and tells false beside an error.
func TestMatchOfValuesThatMayNotBe(t *testing.T) {
	for _, v := range unsound() {
		if val.Is(v) {
			t.Fatalf("%d: it may be", v.Kind)
		}
		env := []api.Bind{{Name: "v", V: v}}
		for _, w := range append(few(), unsound()...) {
			for _, a := range []api.Expr{name("v"), whole(1), over(), faulty()} {
				for _, x := range []api.Test{is(a), stands("<", a), stands("!=", a), between(true, true, a, a), between(false, false, a, whole(2)), none(is(a)), {Kind: 9, A: a}} {
					if ok, e := cell.Match(tests(x), w, env); ok && e != api.OK {
						t.Errorf("%s: true beside %v", told(tests(x)), e)
					}
				}
			}
		}
	}
}
