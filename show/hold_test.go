package show_test

import (
	"math"
	"reflect"
	"strings"
	"testing"

	"dossier/api"
	"dossier/show"
)

// roomy is kids with something in the spare room behind their end.
func roomy(l ...api.Expr) []api.Expr {
	return append(l, name("spare"), name("room"))[:len(l)]
}

// many is an expression of every Kind, with spare room behind all its kids.
func many() api.Expr {
	a, b := name("a"), text("b c")
	in := within(true, false, roomy(a, num(-1, 0), num(25, 1))...)
	up := choice(roomy(in, bin("+", roomy(a, b)...), api.Expr{Kind: api.ExprNeg, Kids: roomy(b)})...)
	return call("f", roomy(up, list(roomy(a, api.Expr{}, bin("-", roomy(a)...))...), api.Expr{Kind: api.ExprNull})...)
}

// whole is an expression with the spare room behind its kids as kids, in memory of its own.
func whole(x api.Expr) api.Expr {
	kids := x.Kids[:cap(x.Kids)]
	x.Kids = nil
	for _, k := range kids {
		x.Kids = append(x.Kids, whole(k))
	}
	return x
}

func manyVals() api.Val {
	l := []api.Val{vnum(-1, 0), vtext("b c"), vlist([]api.Val{vtext("x"), vtext("spare")}[:1]...), {Kind: 7}, vtext("room")}
	return vlist(l[:4]...)
}

func wholeVal(v api.Val) api.Val {
	l := v.L[:cap(v.L)]
	v.L = nil
	for _, w := range l {
		v.L = append(v.L, wholeVal(w))
	}
	return v
}

func TestExprChangesNothing(t *testing.T) {
	x := many()
	kept := whole(x)
	want := `f((if (a in [(-1)..2.5)) then (a + "b c") else (-"b c")), [a, ?, ?], null)`
	for range 3 {
		pair{x, want}.tells(t)
		if !reflect.DeepEqual(whole(x), kept) {
			t.Fatal("what is handed in is changed")
		}
	}
}

func TestValChangesNothing(t *testing.T) {
	v := manyVals()
	kept := wholeVal(v)
	for range 3 {
		vpair{v, `[-1, "b c", ["x"], ?]`}.tells(t)
		if !reflect.DeepEqual(wholeVal(v), kept) {
			t.Fatal("what is handed in is changed")
		}
	}
}

// What was told stays, whatever becomes of what was handed in; and nothing of
// that is kept for a later call.
func TestToldStays(t *testing.T) {
	x, v := many(), manyVals()
	s, u := show.Expr(x), show.Val(v)
	keptS, keptU := strings.Clone(s), strings.Clone(u)
	clear(x.Kids[:cap(x.Kids)])
	clear(v.L[:cap(v.L)])
	pair{x, "f(?, ?, ?)"}.tells(t)
	vpair{v, "[null, null, null, null]"}.tells(t)
	if s != keptS || u != keptU {
		t.Errorf("%q, %q: not %q, %q any more", s, u, keptS, keptU)
	}
	pair{many(), keptS}.tells(t)
	vpair{manyVals(), keptU}.tells(t)
}

func TestExprOfManyWithinOneAnother(t *testing.T) {
	const n = 1 << 16
	for _, b := range branches() {
		for at := range len(b.around) - 1 {
			once := b.put(at, pair{name("\n"), "\n"})
			ahead, behind, _ := strings.Cut(once.text, "\n")
			x := name("x")
			for range n {
				x = b.put(at, pair{x, ""}).x
			}
			if s := show.Expr(x); s != strings.Repeat(ahead, n)+"x"+strings.Repeat(behind, n) {
				t.Errorf("Expr of %d of %q: another text, of %d bytes", n, once.text, len(s))
			}
		}
	}
}

func TestExprOfManySideBySide(t *testing.T) {
	const n = 1 << 18
	l := make([]api.Expr, n)
	for i := range l {
		l[i] = num(-1, 0)
	}
	row := strings.Repeat("(-1), ", n-1) + "(-1)"
	if show.Expr(list(l...)) != "["+row+"]" || show.Expr(call("f", l...)) != "f("+row+")" {
		t.Error("another text")
	}
	for _, x := range []api.Expr{bin("+", l...), choice(l...), within(true, true, l...), {Kind: api.ExprNeg, Kids: l}, {Kind: 12, Kids: l}} {
		pair{x, "?"}.tells(t)
	}
}

func TestValOfMany(t *testing.T) {
	const n = 1 << 16
	v := vnum(-5, 1)
	for range n {
		v = vlist(vtext("t"), v, api.Val{})
	}
	if show.Val(v) != strings.Repeat(`["t", `, n)+"-0.5"+strings.Repeat(", null]", n) {
		t.Error("another text of many within one another")
	}
	if show.Val(vlist(make([]api.Val, n)...)) != "["+strings.Repeat("null, ", n-1)+"null]" {
		t.Error("another text of many side by side")
	}
}

// Nothing is said of the text of a decimal that may not be; but there is one,
// and it is the same each time.
func TestOfDecimalsThatMayNotBe(t *testing.T) {
	edges := []int{math.MinInt, math.MinInt + 1, -api.MaxM - 1, -10, -1, 0, 1, 5, 10, api.MaxM + 1, math.MaxInt}
	for _, m := range edges {
		for _, s := range edges {
			pair{list(num(m, s)), "[" + show.Expr(num(m, s)) + "]"}.tells(t)
			vpair{vlist(vnum(m, s)), "[" + show.Val(vnum(m, s)) + "]"}.tells(t)
		}
	}
}
