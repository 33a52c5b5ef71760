package feel

import (
	"dossier/api"
	"dossier/dec"
	"dossier/lex"
)

// reader goes through tokens from left to right, and never back. It goes past
// a token only where that can stand: with an error, at is where the error is.
type reader struct {
	l  []api.Tok
	at int
}

// here is the token that stands next; at the row's end one of no Kind.
func (r *reader) here() api.Tok {
	if r.at == len(r.l) {
		return api.Tok{}
	}
	return r.l[r.at]
}

// place is where the next token stands in the text; at the row's end it is end.
func (r *reader) place(end int) int {
	if r.at == len(r.l) {
		return end
	}
	return r.l[r.at].Pos
}

// next tells whether a word or a sign stands next.
func (r *reader) next(mark string) bool {
	kind := api.TokSign
	if lex.Word(mark) {
		kind = api.TokName
	}
	t := r.here()
	return t.Kind == kind && t.Text == mark
}

// pass is the one of some words and signs that stands next, and goes past it;
// nothing, if none of them does.
func (r *reader) pass(marks ...string) string {
	for _, m := range marks {
		if r.next(m) {
			r.at++
			return m
		}
	}
	return ""
}

func (r *reader) expr(deep int) (api.Expr, api.Errno) {
	return r.chain(deep, r.and, "or")
}

func (r *reader) and(deep int) (api.Expr, api.Errno) {
	return r.chain(deep, r.cmp, "and")
}

func (r *reader) cmp(deep int) (api.Expr, api.Errno) {
	x, e := r.add(deep)
	if e != api.OK {
		return api.Expr{}, e
	}
	if r.pass("in") != "" {
		return r.within(x, deep+1)
	}
	op := r.pass("<", "<=", ">", ">=", "=", "!=")
	if op == "" {
		return x, api.OK
	}
	y, e := r.add(deep)
	if e != api.OK {
		return api.Expr{}, e
	}
	return binary(x, op, y), api.OK
}

func (r *reader) add(deep int) (api.Expr, api.Errno) {
	return r.chain(deep, r.mul, "+", "-")
}

func (r *reader) mul(deep int) (api.Expr, api.Errno) {
	return r.chain(deep, r.unary, "*", "/")
}

// unary asks for the depth on behalf of expr too: each expr begins with a
// unary of its own depth.
func (r *reader) unary(deep int) (api.Expr, api.Errno) {
	if deep > api.MaxDeep {
		return api.Expr{}, api.ErrDeep
	}
	if r.pass("-") == "" {
		return r.atom(deep)
	}
	x, e := r.unary(deep + 1)
	if e != api.OK {
		return api.Expr{}, e
	}
	return api.Expr{Kind: api.ExprNeg, Kids: []api.Expr{x}}, api.OK
}

func (r *reader) atom(deep int) (api.Expr, api.Errno) {
	switch t := r.here(); {
	case t.Kind == api.TokNum:
		return r.number(t.Text)
	case t.Kind == api.TokText:
		r.at++
		return api.Expr{Kind: api.ExprText, T: t.Text}, api.OK
	case t.Kind == api.TokName && !lex.Word(t.Text):
		r.at++
		return r.named(t.Text, deep+1)
	case r.pass("[") != "":
		return r.listed(deep + 1)
	case r.next("("):
		return r.bracketed(deep + 1)
	case r.next("if"):
		return r.choice(deep + 1)
	}
	return r.constant()
}

// constant is a word that is a value.
func (r *reader) constant() (api.Expr, api.Errno) {
	switch r.pass("null", "true", "false") {
	case "null":
		return api.Expr{Kind: api.ExprNull}, api.OK
	case "true":
		return api.Expr{Kind: api.ExprBool, B: true}, api.OK
	case "false":
		return api.Expr{Kind: api.ExprBool}, api.OK
	}
	return api.Expr{}, api.ErrForm
}

// number is the number that stands next, whose text is s.
func (r *reader) number(s string) (api.Expr, api.Errno) {
	d, e := dec.Parse(s)
	if e != api.OK {
		return api.Expr{}, e
	}
	r.at++
	return api.Expr{Kind: api.ExprNum, D: d}, api.OK
}

// named is a name that was gone past, or a call, if a bracket stands behind it.
func (r *reader) named(name string, deep int) (api.Expr, api.Errno) {
	if r.pass("(") == "" {
		return api.Expr{Kind: api.ExprName, T: name}, api.OK
	}
	kids, e := r.rest(deep, ")")
	if e != api.OK {
		return api.Expr{}, e
	}
	return api.Expr{Kind: api.ExprCall, T: name, Kids: kids}, api.OK
}

// listed is a list whose opening bracket was gone past.
func (r *reader) listed(deep int) (api.Expr, api.Errno) {
	kids, e := r.rest(deep, "]")
	if e != api.OK {
		return api.Expr{}, e
	}
	return api.Expr{Kind: api.ExprList, Kids: kids}, api.OK
}

func (r *reader) bracketed(deep int) (api.Expr, api.Errno) {
	_, x, e := r.behind(deep, "(")
	if e != api.OK {
		return api.Expr{}, e
	}
	if r.pass(")") == "" {
		return api.Expr{}, api.ErrForm
	}
	return x, api.OK
}

func (r *reader) choice(deep int) (api.Expr, api.Errno) {
	var kids []api.Expr
	for _, word := range [...]string{"if", "then", "else"} {
		_, x, e := r.behind(deep, word)
		if e != api.OK {
			return api.Expr{}, e
		}
		kids = append(kids, x)
	}
	return api.Expr{Kind: api.ExprIf, Kids: kids}, api.OK
}

// within is x in the range that stands next.
func (r *reader) within(x api.Expr, deep int) (api.Expr, api.Errno) {
	open, low, e := r.behind(deep, "[", "(")
	if e != api.OK {
		return api.Expr{}, e
	}
	_, high, e := r.behind(deep, "..")
	if e != api.OK {
		return api.Expr{}, e
	}
	shut := r.pass("]", ")")
	if shut == "" {
		return api.Expr{}, api.ErrForm
	}
	kids := []api.Expr{x, low, high}
	return api.Expr{Kind: api.ExprIn, Lo: open == "[", Hi: shut == "]", Kids: kids}, api.OK
}

// behind is the one of some words and signs that has to stand next, and the
// expression behind it.
func (r *reader) behind(deep int, marks ...string) (string, api.Expr, api.Errno) {
	mark := r.pass(marks...)
	if mark == "" {
		return "", api.Expr{}, api.ErrForm
	}
	x, e := r.expr(deep)
	return mark, x, e
}

// rest is the expressions of a call or a list up to its closing bracket, which
// is gone past. That is looked for first: where nothing stands within, nothing
// is too deep.
func (r *reader) rest(deep int, shut string) ([]api.Expr, api.Errno) {
	if r.pass(shut) != "" {
		return nil, api.OK
	}
	var l []api.Expr
	for {
		x, e := r.expr(deep)
		if e != api.OK {
			return nil, e
		}
		l = append(l, x)
		switch r.pass(",", shut) {
		case shut:
			return l, api.OK
		case "":
			return nil, api.ErrForm
		}
	}
}

// chain is parts with alike operators between them: the left one binds first.
func (r *reader) chain(deep int, part func(int) (api.Expr, api.Errno), ops ...string) (api.Expr, api.Errno) {
	x, e := part(deep)
	for e == api.OK {
		op := r.pass(ops...)
		if op == "" {
			return x, api.OK
		}
		var y api.Expr
		y, e = part(deep)
		x = binary(x, op, y)
	}
	return api.Expr{}, e
}

func binary(x api.Expr, op string, y api.Expr) api.Expr {
	return api.Expr{Kind: api.ExprBin, T: op, Kids: []api.Expr{x, y}}
}
