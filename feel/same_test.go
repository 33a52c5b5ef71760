package feel_test

import (
	"math"
	"reflect"
	"slices"
	"testing"

	"dossier/api"
	"dossier/feel"
)

// same asks for Same, both ways round.
func same(t *testing.T, a, b api.Expr, want bool) {
	t.Helper()
	if feel.Same(a, b) != want || feel.Same(b, a) != want {
		t.Errorf("Same(%#v, %#v): not %t", a, b, want)
	}
}

func kinds() []int {
	return []int{api.ExprNull, api.ExprBool, api.ExprNum, api.ExprText, api.ExprName, api.ExprBin, api.ExprNeg, api.ExprIf, api.ExprList, api.ExprCall, api.ExprIn}
}

func otherKinds() []int { return []int{0, 12, -1, math.MaxInt, math.MinInt} }

func TestSameOfParsed(t *testing.T) {
	texts := []string{
		"null", "true", "false", "0", "1", "10", "0.1", "1.5", `""`, `"a"`, `"b"`, `"1"`, `"true"`, "a", "b", "not",
		"a + b", "a - b", "a * b", "a / b", "a < b", "a <= b", "a > b", "a >= b", "a = b", "a != b", "a and b", "a or b", "b + a", "a + a",
		"-a", "-b", "--a", "-1", "if a then b else c", "if b then b else c", "if a then c else c", "if a then b else b",
		"[]", "[a]", "[b]", "[a, b]", "[b, a]", "[a, a]", "[[]]", "[[a]]", "[a, b, c]", "f()", "g()", "f(a)", "f(b)", "g(a)", "f(a, b)", "f([])", "f(f())",
		"a in [a..b]", "a in (a..b]", "a in [a..b)", "a in (a..b)", "b in [a..b]", "a in [b..b]", "a in [a..a]",
		"a + b + c", "a + (b + c)", "a + b * c", "(a + b) * c", "[a + b]", "[a - b]", "[[[a]]]", "[[[b]]]",
	}
	for i, a := range texts {
		for k, b := range texts {
			same(t, parsed(t, a), parsed(t, b), i == k)
		}
	}
	same(t, parsed(t, "1.50"), parsed(t, "(1.5)"), true)
	same(t, parsed(t, "a+b*c"), parsed(t, " ( a + ( b * ( c ) ) ) "), true)
	same(t, parsed(t, "[ ]"), parsed(t, "[]"), true)
}

func TestSameOfKinds(t *testing.T) {
	for _, a := range append(kinds(), otherKinds()...) {
		for _, b := range append(kinds(), otherKinds()...) {
			same(t, api.Expr{Kind: a}, api.Expr{Kind: b}, a == b)
			kid := []api.Expr{{Kind: api.ExprNull}}
			same(t, api.Expr{Kind: a, T: "x", Kids: kid}, api.Expr{Kind: b, T: "x", Kids: kid}, a == b)
		}
	}
}

// Each field is asked at each Kind: whether it tells a difference.
func TestSameOfFields(t *testing.T) {
	fields := []struct {
		name  string
		x     api.Expr
		kinds []int
	}{
		{"B", api.Expr{B: true}, []int{api.ExprBool}},
		{"D's M", api.Expr{D: api.Dec{M: 1}}, []int{api.ExprNum}},
		{"D's S", api.Expr{D: api.Dec{S: 1}}, []int{api.ExprNum}},
		{"T", api.Expr{T: "x"}, []int{api.ExprText, api.ExprName, api.ExprBin, api.ExprCall}},
		{"Lo", api.Expr{Lo: true}, []int{api.ExprIn}},
		{"Hi", api.Expr{Hi: true}, []int{api.ExprIn}},
	}
	for _, f := range fields {
		for _, kind := range append(kinds(), otherKinds()...) {
			a, b := api.Expr{Kind: kind}, f.x
			b.Kind = kind
			tells := slices.Contains(f.kinds, kind)
			if feel.Same(a, b) == tells || feel.Same(b, a) == tells || !feel.Same(b, b) {
				t.Errorf("%s of the Kind %d: tells a difference: not %t", f.name, kind, tells)
			}
			up := func(x api.Expr) api.Expr {
				return api.Expr{Kind: api.ExprList, Kids: []api.Expr{{Kind: api.ExprNull}, x}}
			}
			if feel.Same(up(a), up(b)) == tells {
				t.Errorf("%s of a kid of the Kind %d: tells a difference: not %t", f.name, kind, tells)
			}
		}
	}
}

func TestSameOfAllThatIsNotNamed(t *testing.T) {
	for _, kind := range kinds() {
		x := bare(api.Expr{Kind: kind, B: true, D: api.Dec{M: 7, S: 2}, T: "x", Lo: true, Hi: true, Kids: []api.Expr{{Kind: api.ExprNull}}})
		y := api.Expr{Kind: kind, B: true, D: api.Dec{M: 7, S: 2}, T: "x", Lo: true, Hi: true, Kids: []api.Expr{{Kind: api.ExprNull, T: "y", B: true}}}
		same(t, x, y, true)
	}
}

func TestSameOfDecimalsByTheirFields(t *testing.T) {
	num := func(m, s int) api.Expr { return api.Expr{Kind: api.ExprNum, D: api.Dec{M: m, S: s}} }
	same(t, num(1, 0), num(1, 0), true)
	same(t, num(1, 0), num(10, 1), false)
	same(t, num(1, 0), num(-1, 0), false)
	same(t, num(math.MaxInt, math.MinInt), num(math.MaxInt, math.MinInt), true)
	same(t, num(math.MaxInt, math.MinInt), num(math.MaxInt, math.MaxInt), false)
}

func TestSameOfKids(t *testing.T) {
	leaf := func(name string) api.Expr { return api.Expr{Kind: api.ExprName, T: name} }
	a, b := leaf("a"), leaf("b")
	for _, kind := range append(kinds(), otherKinds()...) {
		of := func(kids ...api.Expr) api.Expr { return api.Expr{Kind: kind, Kids: kids} }
		rows := []api.Expr{of(), of(a), of(b), of(a, a), of(a, b), of(b, a), of(a, a, a), of(a, a, b), of(of(a)), of(of(b)), of(of(a), a)}
		for i, x := range rows {
			for k, y := range rows {
				same(t, x, y, i == k)
			}
		}
		same(t, of(), of(make([]api.Expr, 0, 3)...), true)
		same(t, of([]api.Expr{}...), api.Expr{Kind: kind}, true)
	}
}

// Same looks at no spare room, and changes nothing.
func TestSameChangesNothing(t *testing.T) {
	x := parsed(t, `f(a, [1, "t"], if b then -c else d in (1..2])`)
	y := parsed(t, `f(a, [1, "t"], if b then -c else d in (1..2])`)
	kept := full(x)
	if !feel.Same(x, y) || !reflect.DeepEqual(full(x), kept) || !reflect.DeepEqual(full(y), kept) {
		t.Error("what is handed in is changed")
	}
	room := []api.Expr{{Kind: api.ExprNull}, {Kind: api.ExprName, T: "a"}}
	other := []api.Expr{{Kind: api.ExprNull}, {Kind: api.ExprName, T: "b"}}
	same(t, api.Expr{Kind: api.ExprList, Kids: room[:1]}, api.Expr{Kind: api.ExprList, Kids: other[:1]}, true)
	if room[1].T != "a" || other[1].T != "b" {
		t.Error("spare room is changed")
	}
}

func TestSameOfManyWithinOneAnother(t *testing.T) {
	tower := func(at string) api.Expr {
		x := api.Expr{Kind: api.ExprName, T: at}
		for range 1 << 16 {
			x = api.Expr{Kind: api.ExprNeg, Kids: []api.Expr{x}}
		}
		return x
	}
	if !feel.Same(tower("a"), tower("a")) || feel.Same(tower("a"), tower("b")) {
		t.Error("of a tower")
	}
}
