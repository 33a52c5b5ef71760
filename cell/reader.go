package cell

import (
	"dossier/api"
	"dossier/feel"
)

// reader goes through the tokens of a text that ends at end. What it reads
// comes with the place of its error, and that error.
type reader struct {
	l       []api.Tok
	at, end int
}

// cell is the whole row's tests.
func (r *reader) cell() ([]api.Test, int, api.Errno) {
	if len(r.l) == 1 && r.next("-") {
		return []api.Test{{Kind: api.TestAny}}, 0, api.OK
	}
	read := r.tests
	if r.denied() {
		read = r.none
	}
	l, pos, e := read()
	switch {
	case e != api.OK:
		return nil, pos, e
	case r.at < len(r.l):
		return nil, r.place(), api.ErrForm
	}
	return l, 0, api.OK
}

// denied tells whether the row begins with a `not` and its bracket, and goes past
// both; a `not` without one is a name like others.
func (r *reader) denied() bool {
	if !r.sign(1, "(") || r.l[0].Kind != api.TokName || r.l[0].Text != "not" {
		return false
	}
	r.at = 2
	return true
}

// none is the one test that a `not` is, whose bracket was gone past.
func (r *reader) none() ([]api.Test, int, api.Errno) {
	kids, pos, e := r.tests()
	if e != api.OK {
		return nil, pos, e
	}
	if r.pass(")") == "" {
		return nil, r.place(), api.ErrForm
	}
	return []api.Test{{Kind: api.TestNot, Kids: kids}}, 0, api.OK
}

// tests is a row of tests. Whether there is room for one more is asked behind
// each comma, whatever stands there.
func (r *reader) tests() ([]api.Test, int, api.Errno) {
	var l []api.Test
	for len(l) < api.MaxTests {
		t, pos, e := r.test()
		if e != api.OK {
			return nil, pos, e
		}
		l = append(l, t)
		if r.pass(",") == "" {
			return l, 0, api.OK
		}
	}
	return nil, r.place(), api.ErrLong
}

func (r *reader) test() (api.Test, int, api.Errno) {
	if rel := r.pass("<", "<=", ">", ">=", "=", "!="); rel != "" {
		return r.compared(rel)
	}
	if open, low := r.begun(); open != "" {
		return r.ranged(open, low)
	}
	return r.compared("=")
}

// compared is the test of a sign that was gone past, or that goes without saying.
func (r *reader) compared(rel string) (api.Test, int, api.Errno) {
	x, pos, e := r.expr()
	if e != api.OK {
		return api.Test{}, pos, e
	}
	return api.Test{Kind: api.TestCmp, Rel: rel, A: x}, 0, api.OK
}

// begun is the bracket and the first end of the range that stands next, and
// goes past them and the dots; nothing, if no range does: a list or an
// expression in brackets begins likewise, and its error is the one to be told.
func (r *reader) begun() (string, api.Expr) {
	scout := *r
	open := scout.pass("[", "(")
	if open == "" {
		return "", api.Expr{}
	}
	low, _, e := scout.expr()
	if e != api.OK || scout.pass("..") == "" {
		return "", api.Expr{}
	}
	*r = scout
	return open, low
}

// ranged is the range whose dots were gone past.
func (r *reader) ranged(open string, low api.Expr) (api.Test, int, api.Errno) {
	high, pos, e := r.expr()
	if e != api.OK {
		return api.Test{}, pos, e
	}
	shut := r.pass("]", ")")
	if shut == "" {
		return api.Test{}, r.place(), api.ErrForm
	}
	return api.Test{Kind: api.TestRange, A: low, B: high, Lo: open == "[", Hi: shut == "]"}, 0, api.OK
}

// expr is the expression that stands next, as much of it as can.
func (r *reader) expr() (api.Expr, int, api.Errno) {
	x, next, pos, e := feel.Take(r.l, r.at, r.end)
	if e != api.OK {
		return api.Expr{}, pos, e
	}
	r.at = next
	return x, 0, api.OK
}

// place is where the next token stands in the text, or the text's end.
func (r *reader) place() int {
	if r.at == len(r.l) {
		return r.end
	}
	return r.l[r.at].Pos
}

// sign tells whether a sign stands at a place of the row.
func (r *reader) sign(at int, mark string) bool {
	return at < len(r.l) && r.l[at].Kind == api.TokSign && r.l[at].Text == mark
}

// next tells whether a sign stands next.
func (r *reader) next(mark string) bool { return r.sign(r.at, mark) }

// pass is the one of some signs that stands next, and goes past it; nothing,
// if none of them does.
func (r *reader) pass(marks ...string) string {
	for _, m := range marks {
		if r.next(m) {
			r.at++
			return m
		}
	}
	return ""
}
