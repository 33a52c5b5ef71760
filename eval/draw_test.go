package eval_test

import (
	"strings"
	"testing"

	"dossier/api"
)

// few is values of each Kind, edges among them, each with a name.
func few() []api.Bind {
	l := []api.Val{
		null(), yes(false), yes(true),
		num(0, 0), num(1, 0), num(-3, 0), num(7, 0), num(25, 1), num(-1, 4), num(api.MaxM, 0), num(-api.MaxM, 0), num(999999999, 4),
		txt(""), txt("ab"), txt("b"), txt("12345678"), txt("sixteen bytes xx"),
		list(), list(null()), list(num(1, 0), num(-3, 0)), list(num(api.MaxM, 0), num(1, 0)), list(txt("ab"), num(7, 0)), list(list()), list(list(num(1, 0)), yes(true)),
	}
	var env []api.Bind
	for i, v := range l {
		env = append(env, api.Bind{Name: "v" + string(rune('a'+i)), V: v})
	}
	return env
}

// rows is all rows of n names.
func rows(env []api.Bind, n int) [][]api.Expr {
	all := [][]api.Expr{nil}
	for range n {
		var longer [][]api.Expr
		for _, l := range all {
			for _, b := range env {
				longer = append(longer, append(l[:len(l):len(l)], name(b.Name)))
			}
		}
		all = longer
	}
	return all
}

func TestByTheBookOfEachPair(t *testing.T) {
	b := book{few()}
	for _, l := range rows(b.env, 2) {
		for _, op := range append(operators(), "", "?", "==") {
			b.check(t, bin(op, l...))
		}
	}
}

func TestByTheBookOfEachRowOfKids(t *testing.T) {
	b := book{few()}
	for n := range 4 {
		for _, l := range rows(b.env, n) {
			for _, f := range append(calls(), "f") {
				b.check(t, call(f, l...))
			}
			b.check(t, row(l...))
			if n == 1 {
				b.check(t, neg(l...))
			}
			if n == 3 {
				b.check(t, choice(l...))
				for ends := range 4 {
					b.check(t, within(ends&1 > 0, ends&2 > 0, l...))
				}
			}
		}
	}
}

// draw is drawn numbers, the same ones each time.
type draw uint64

func (x *draw) next(n int) int {
	*x = *x*6364136223846793005 + 1442695040888963407
	return int(*x>>33) % n
}

func (x *draw) of(l ...string) string { return l[x.next(len(l))] }

// number is a drawn decimal that may be: small ones, great ones, with digits behind the point.
func (x *draw) number() api.Expr {
	m, s := x.next(41)-20, 0
	switch x.next(5) {
	case 0:
		m = x.next(2*api.MaxM+1) - api.MaxM
	case 1:
		m = []int{api.MaxM, -api.MaxM, api.MaxM - 1, 31622, 31623, 20000}[x.next(6)]
	}
	if m%10 != 0 {
		s = x.next(5)
	}
	return xnum(m, s)
}

// row is some drawn kids of one Kind of values.
func (x *draw) row(n, kind, deep int) []api.Expr {
	var l []api.Expr
	for range n {
		l = append(l, x.expr(kind, deep-1))
	}
	return l
}

// expr is a drawn expression that is mostly of the Kind of values that is
// asked for, so that what is made of it is seldom Null.
func (x *draw) expr(kind, deep int) api.Expr {
	switch {
	case x.next(12) == 0:
		kind = x.next(5)
	case x.next(150) == 0:
		return x.faulty(deep)
	case deep > 0 && x.next(8) == 0:
		return choice(x.expr(api.Bool, deep-1), x.expr(kind, deep-1), x.expr(kind, deep-1))
	}
	switch kind {
	case api.Bool:
		return x.boolean(deep)
	case api.Num:
		return x.reckoning(deep)
	case api.Text:
		return x.text(deep)
	case api.List:
		return x.list(deep)
	}
	return []api.Expr{xnull(), name("none"), name("va")}[x.next(3)]
}

// faulty is what errs ahead of its kids.
func (x *draw) faulty(deep int) api.Expr {
	kids := x.row(x.next(4), x.next(5), min(deep, 2))
	kinds := []int{0, 12, -1, api.ExprNum, api.ExprText, api.ExprBin, api.ExprNeg, api.ExprIf, api.ExprIn}
	return api.Expr{Kind: kinds[x.next(len(kinds))], D: api.Dec{M: 10, S: 1}, T: "\"", Kids: kids}
}

func (x *draw) boolean(deep int) api.Expr {
	kind := []int{api.Num, api.Text}[x.next(2)]
	n := x.next(6)
	if deep <= 0 {
		n = 5
	}
	switch n {
	case 0:
		return bin(x.of("<", "<=", ">", ">="), x.row(2, kind, deep)...)
	case 1:
		return bin(x.of("=", "!="), x.row(2, x.next(5), deep)...)
	case 2:
		return bin(x.of("and", "or"), x.row(2, api.Bool, deep)...)
	case 3:
		return within(x.next(2) == 0, x.next(2) == 0, x.row(3, kind, deep)...)
	case 4:
		if x.next(2) == 0 {
			return call("has", x.expr(api.List, deep-1), x.expr(x.next(5), deep-1))
		}
		return call("not", x.expr(api.Bool, deep-1))
	}
	return xyes(x.next(2) == 0)
}

func (x *draw) reckoning(deep int) api.Expr {
	n := x.next(8)
	if deep <= 0 {
		n = 7
	}
	switch n {
	case 0, 1, 2:
		return bin(x.of("+", "-", "*", "/"), x.row(2, api.Num, deep)...)
	case 3:
		return neg(x.expr(api.Num, deep-1))
	case 4:
		return call(x.of("abs", "floor", "ceil", "mod"), x.row(1+x.next(2), api.Num, deep)...)
	case 5:
		if x.next(2) == 0 {
			return call("len", x.expr(api.Text, deep-1))
		}
		return call("count", x.expr(api.List, deep-1))
	case 6:
		if x.next(2) == 0 {
			return call(x.of("min", "max", "sum"), row(x.row(x.next(4), api.Num, deep)...))
		}
		return call(x.of("min", "max", "sum"), x.row(x.next(4), api.Num, deep)...)
	}
	if x.next(4) == 0 {
		return name("v" + string(rune('d'+x.next(9))))
	}
	return x.number()
}

func (x *draw) text(deep int) api.Expr {
	if deep > 0 && x.next(3) > 0 {
		if x.next(2) == 0 {
			return bin("+", x.row(2, api.Text, deep)...)
		}
		return call("cat", x.row(x.next(4), api.Text, deep)...)
	}
	if x.next(4) == 0 {
		return name("v" + string(rune('m'+x.next(5))))
	}
	return xtxt(strings.Repeat(x.of("a", "b", " "), x.next(7)))
}

func (x *draw) list(deep int) api.Expr {
	if deep > 0 && x.next(4) > 0 {
		n := x.next(4)
		if x.next(20) == 0 {
			n = 7 + x.next(4)
		}
		return row(x.row(n, x.next(5), deep)...)
	}
	return name("v" + string(rune('r'+x.next(7))))
}

func TestByTheBookOfDrawnExpressions(t *testing.T) {
	b, x := book{few()}, draw(11)
	var kinds [5]int
	errs := map[api.Errno]int{}
	for n := range 200000 {
		v, e := b.check(t, x.expr(x.next(5), 1+n%6))
		errs[e]++
		if e == api.OK {
			kinds[v.Kind]++
		}
	}
	for kind, n := range kinds {
		if n < 2000 {
			t.Errorf("only %d answers of Kind %d", n, kind)
		}
	}
	if errs[api.ErrOver] < 2000 || errs[api.ErrArg] < 2000 {
		t.Errorf("only these errors: %v", errs)
	}
}
