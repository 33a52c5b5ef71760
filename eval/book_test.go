package eval_test

import (
	"math/big"
	"regexp"
	"strings"
	"testing"

	"dossier/api"
	"dossier/eval"
	"dossier/show"
	"dossier/val"
)

// Another way than the package's: values are nil, bool, *big.Rat, string and
// []any, two are one if their texts are, and the first error is a panic.
type book struct{ env []api.Bind }

type fault struct{ e api.Errno }

// of is what Eval ought to answer, its value as a text.
func (b book) of(x api.Expr) (s string, e api.Errno) {
	defer func() {
		if r := recover(); r != nil {
			s, e = "null", r.(fault).e
		}
	}()
	return tell(b.part(x)), api.OK
}

func (b book) part(x api.Expr) any {
	if !allowed(x) {
		panic(fault{api.ErrArg})
	}
	switch x.Kind {
	case api.ExprNull:
		return nil
	case api.ExprBool:
		return x.B
	case api.ExprNum:
		return rat(x.D)
	case api.ExprText:
		return x.T
	case api.ExprName:
		for _, p := range b.env {
			if p.Name == x.T {
				return thing(p.V)
			}
		}
		return nil
	case api.ExprIf:
		if b.part(x.Kids[0]) == true {
			return b.part(x.Kids[1])
		}
		return b.part(x.Kids[2])
	}
	l := []any{}
	for _, k := range x.Kids {
		l = append(l, b.part(k))
	}
	switch x.Kind {
	case api.ExprBin:
		return operate(x.T, l[0], l[1])
	case api.ExprNeg:
		return times(l[0], big.NewRat(-1, 1))
	case api.ExprList:
		if len(l) > 8 || nests(l) > 2 {
			panic(fault{api.ErrOver})
		}
		return l
	case api.ExprIn:
		from := relation(map[bool]string{true: ">=", false: ">"}[x.Lo], l[0], l[1])
		to := relation(map[bool]string{true: "<=", false: "<"}[x.Hi], l[0], l[2])
		return sure(min(third(from), third(to)))
	}
	return called(x.T, l)
}

var textual = regexp.MustCompile(`\A[ !#-~]{0,16}\z`)

func allowed(x api.Expr) bool {
	n, bound := map[int]int{api.ExprBin: 2, api.ExprNeg: 1, api.ExprIf: 3, api.ExprIn: 3}[x.Kind]
	switch {
	case x.Kind < api.ExprNull || x.Kind > api.ExprIn:
		return false
	case x.Kind == api.ExprNum:
		d := x.D
		return d.M >= -api.MaxM && d.M <= api.MaxM && (d.S == 0 || d.S > 0 && d.S <= 4 && d.M%10 != 0)
	case x.Kind == api.ExprText:
		return textual.MatchString(x.T)
	}
	return !bound || len(x.Kids) == n
}

func rat(d api.Dec) *big.Rat {
	p := []int64{1, 10, 100, 1000, 10000}
	return big.NewRat(int64(d.M), p[d.S])
}

func thing(v api.Val) any {
	switch v.Kind {
	case api.Bool:
		return v.B
	case api.Num:
		return rat(v.D)
	case api.Text:
		return v.T
	case api.List:
		l := []any{}
		for _, w := range v.L {
			l = append(l, thing(w))
		}
		return l
	}
	return nil
}

func tell(v any) string {
	switch v := v.(type) {
	case bool:
		return word(v)
	case *big.Rat:
		s := strings.TrimRight(v.FloatString(4), "0")
		return strings.TrimSuffix(s, ".")
	case string:
		return "\"" + v + "\""
	case []any:
		var l []string
		for _, w := range v {
			l = append(l, tell(w))
		}
		return "[" + strings.Join(l, ", ") + "]"
	}
	return "null"
}

func nests(v any) int {
	l, is := v.([]any)
	if !is {
		return 0
	}
	n := 0
	for _, w := range l {
		n = max(n, nests(w))
	}
	return n + 1
}

// third is 0 of false, 2 of true, 1 of all else; sure is the way back.
func third(v any) int {
	switch v {
	case false:
		return 0
	case true:
		return 2
	}
	return 1
}

func sure(n int) any { return []any{false, nil, true}[n] }

// floored is the greatest whole number not above r.
func floored(r *big.Rat) *big.Rat {
	return new(big.Rat).SetInt(new(big.Int).Div(r.Num(), r.Denom()))
}

// rounded is r in parts of p, half to even.
func rounded(r *big.Rat, p int64) *big.Rat {
	parts := new(big.Rat).Mul(r, big.NewRat(p, 1))
	n := floored(parts)
	half := new(big.Rat).Sub(parts, n).Cmp(big.NewRat(1, 2))
	if half > 0 || half == 0 && n.Num().Bit(0) == 1 {
		n.Add(n, big.NewRat(1, 1))
	}
	return n.Quo(n, big.NewRat(p, 1))
}

// fitted is r with as many digits behind the point as go in.
func fitted(r *big.Rat) *big.Rat {
	for _, p := range []int64{10000, 1000, 100, 10, 1} {
		n := rounded(r, p)
		if new(big.Rat).Abs(n).Cmp(big.NewRat(api.MaxM, p)) <= 0 {
			return n
		}
	}
	panic(fault{api.ErrOver})
}

func joined(l ...any) any {
	s := ""
	for _, v := range l {
		s += v.(string)
	}
	if len(s) > 16 {
		panic(fault{api.ErrOver})
	}
	return s
}

func times(a, b any) any {
	x, isX := a.(*big.Rat)
	y, isY := b.(*big.Rat)
	if !isX || !isY {
		return nil
	}
	return fitted(new(big.Rat).Mul(x, y))
}

func operate(op string, a, b any) any {
	switch op {
	case "and":
		return sure(min(third(a), third(b)))
	case "or":
		return sure(max(third(a), third(b)))
	case "*":
		return times(a, b)
	case "+", "-", "/":
	default:
		return relation(op, a, b)
	}
	if op == "+" && all[string](a, b) {
		return joined(a, b)
	}
	if !all[*big.Rat](a, b) {
		return nil
	}
	x, y := a.(*big.Rat), b.(*big.Rat)
	switch {
	case op == "+":
		return fitted(new(big.Rat).Add(x, y))
	case op == "-":
		return fitted(new(big.Rat).Sub(x, y))
	case y.Sign() == 0:
		return nil
	}
	return fitted(rounded(new(big.Rat).Quo(x, y), 10000))
}

// relation asks whether the sign between the two stands in op.
func relation(op string, a, b any) any {
	var c int
	switch {
	case op == "=" || op == "!=":
		return (tell(a) == tell(b)) == (op == "=")
	case op != "<" && op != "<=" && op != ">" && op != ">=":
		return nil
	case all[string](a, b):
		c = strings.Compare(a.(string), b.(string))
	case all[*big.Rat](a, b):
		c = a.(*big.Rat).Cmp(b.(*big.Rat))
	default:
		return nil
	}
	return strings.Contains(op, []string{"<", "=", ">"}[c+1])
}

// all tells whether all are of one type.
func all[T any](l ...any) bool {
	for _, v := range l {
		if _, is := v.(T); !is {
			return false
		}
	}
	return true
}

func called(f string, l []any) any {
	one, nums := len(l) == 1, all[*big.Rat](l...)
	switch f {
	case "abs", "floor", "ceil":
		if one && nums {
			return ofNumber(f, l[0].(*big.Rat))
		}
	case "not":
		if one {
			return sure(2 - third(l[0]))
		}
	case "mod":
		if len(l) == 2 && nums {
			return rest(l[0].(*big.Rat), l[1].(*big.Rat))
		}
	case "len":
		if one && all[string](l...) {
			return big.NewRat(int64(len(l[0].(string))), 1)
		}
	case "count":
		if one && all[[]any](l...) {
			return big.NewRat(int64(len(l[0].([]any))), 1)
		}
	case "has":
		if len(l) == 2 && all[[]any](l[0]) {
			return strings.Contains(tellEach(l[0].([]any)), "\n"+tell(l[1])+"\n")
		}
	case "cat":
		if len(l) > 0 && all[string](l...) {
			return joined(l...)
		}
	case "min", "max", "sum":
		if one && all[[]any](l...) {
			return overAll(f, l[0].([]any))
		}
		if len(l) > 0 {
			return overAll(f, l)
		}
	}
	return nil
}

// tellEach is all texts, each on a line of its own: none has a line's end in it.
func tellEach(l []any) string {
	s := "\n"
	for _, v := range l {
		s += tell(v) + "\n"
	}
	return s
}

func ofNumber(f string, r *big.Rat) *big.Rat {
	switch f {
	case "abs":
		return new(big.Rat).Abs(r)
	case "floor":
		return floored(r)
	}
	up := floored(new(big.Rat).Neg(r))
	return up.Neg(up)
}

func rest(a, b *big.Rat) any {
	if !a.IsInt() || !b.IsInt() || b.Sign() == 0 {
		return nil
	}
	whole := floored(new(big.Rat).Quo(a, b))
	return new(big.Rat).Sub(a, whole.Mul(whole, b))
}

func overAll(f string, l []any) any {
	if !all[*big.Rat](l...) || len(l) == 0 && f != "sum" {
		return nil
	}
	sum, least, greatest := new(big.Rat), (*big.Rat)(nil), (*big.Rat)(nil)
	for _, v := range l {
		r := v.(*big.Rat)
		if f == "sum" {
			sum = fitted(new(big.Rat).Add(sum, r))
		}
		if least == nil || r.Cmp(least) < 0 {
			least = r
		}
		if greatest == nil || r.Cmp(greatest) > 0 {
			greatest = r
		}
	}
	return map[string]any{"sum": sum, "min": least, "max": greatest}[f]
}

// check holds Eval against the book, and answers what it was.
func (b book) check(t *testing.T, x api.Expr) (api.Val, api.Errno) {
	t.Helper()
	want, e := b.of(x)
	v, got := eval.Eval(x, b.env)
	if show.Val(v) != want || got != e || !val.Is(v) {
		t.Fatalf("Eval(%s): %s, %v, may be: %t; not %s, %v", show.Expr(x), show.Val(v), got, val.Is(v), want, e)
	}
	return v, got
}
