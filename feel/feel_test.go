package feel_test

import (
	"reflect"
	"strconv"
	"strings"
	"testing"

	"dossier/api"
	"dossier/dec"
	"dossier/feel"
)

// told is an expression in words, its parts in brackets of their own.
func told(x api.Expr) string {
	l := []string{}
	for _, k := range x.Kids {
		l = append(l, told(k))
	}
	kids := strings.Join(l, " ")
	switch x.Kind {
	case api.ExprNull:
		return "null"
	case api.ExprBool:
		return strconv.FormatBool(x.B)
	case api.ExprNum:
		return dec.Text(x.D)
	case api.ExprText:
		return strconv.Quote(x.T)
	case api.ExprName:
		return x.T
	case api.ExprBin:
		return "{" + x.T + " " + kids + "}"
	case api.ExprNeg:
		return "{neg " + kids + "}"
	case api.ExprIf:
		return "{if " + kids + "}"
	case api.ExprList:
		return "[" + kids + "]"
	case api.ExprCall:
		return x.T + "(" + kids + ")"
	case api.ExprIn:
		return "{in " + edge(x.Lo, "[", "(") + edge(x.Hi, "]", ")") + " " + kids + "}"
	}
	return "?" + strconv.Itoa(x.Kind)
}

func edge(is bool, yes, no string) string {
	if is {
		return yes
	}
	return no
}

// bare is an expression with nothing but what its Kind names, and nil for lists without an element.
func bare(x api.Expr) api.Expr {
	b := api.Expr{Kind: x.Kind}
	switch x.Kind {
	case api.ExprBool:
		b.B = x.B
	case api.ExprNum:
		b.D = x.D
	case api.ExprText, api.ExprName, api.ExprBin, api.ExprCall:
		b.T = x.T
	case api.ExprIn:
		b.Lo, b.Hi = x.Lo, x.Hi
	}
	for _, k := range x.Kids {
		b.Kids = append(b.Kids, bare(k))
	}
	return b
}

// full is an expression as it is, but for lists without an element.
func full(x api.Expr) api.Expr {
	kids := x.Kids
	x.Kids = nil
	for _, k := range kids {
		x.Kids = append(x.Kids, full(k))
	}
	return x
}

// nothing tells whether an expression is none at all.
func nothing(x api.Expr) bool { return reflect.DeepEqual(full(x), api.Expr{}) }

// right asks for a text's expression, which has nothing wrong.
func right(t *testing.T, s, want string) {
	t.Helper()
	x, n, e := feel.Parse(s)
	if told(x) != want || n != len(s) || e != api.OK {
		t.Errorf("Parse(%q): %s, %d, %v; not %s, %d, OK", s, told(x), n, e, want, len(s))
	}
	if !reflect.DeepEqual(full(x), bare(x)) {
		t.Errorf("Parse(%q): a field is set that its Kind does not name: %#v", s, x)
	}
}

// wrong asks for the place of a text's first error.
func wrong(t *testing.T, s string, at int, want api.Errno) {
	t.Helper()
	if x, n, e := feel.Parse(s); !nothing(x) || n != at || e != want {
		t.Errorf("Parse(%q): %s, %d, %v; not %d, %v", s, told(x), n, e, at, want)
	}
}

// parsed is a text's expression in a test that asks for something else.
func parsed(t *testing.T, s string) api.Expr {
	t.Helper()
	x, _, e := feel.Parse(s)
	if e != api.OK {
		t.Fatalf("Parse(%q): %v", s, e)
	}
	return x
}

func relations() []string { return []string{"<", "<=", ">", ">=", "=", "!="} }

func operators() []string {
	return append([]string{"or", "and", "+", "-", "*", "/"}, relations()...)
}

func TestParseOfAtoms(t *testing.T) {
	right(t, "null", "null")
	right(t, "true", "true")
	right(t, "false", "false")
	right(t, "x", "x")
	right(t, "abcdefgh", "abcdefgh")
	right(t, "a1", "a1")
	right(t, "  x  ", "x")
	right(t, `""`, `""`)
	right(t, `"x"`, `"x"`)
	right(t, `"true"`, `"true"`)
	right(t, `"1 + 2"`, `"1 + 2"`)
	right(t, `"abcdefghijklmnop"`, `"abcdefghijklmnop"`)
	for _, s := range []string{"not", "truex", "nulls", "iff", "inn", "i", "t", "then1", "min"} {
		right(t, s, s)
	}
}

func TestParseOfNumbers(t *testing.T) {
	for _, x := range []struct {
		s string
		d api.Dec
	}{
		{"0", api.Dec{}},
		{"7", api.Dec{M: 7}},
		{"007", api.Dec{M: 7}},
		{"10", api.Dec{M: 10}},
		{"1.5", api.Dec{M: 15, S: 1}},
		{"1.50", api.Dec{M: 15, S: 1}},
		{"1.00", api.Dec{M: 1}},
		{"0.0001", api.Dec{M: 1, S: 4}},
		{"0.00005", api.Dec{}},
		{"0.00015", api.Dec{M: 2, S: 4}},
		{"1000000000", api.Dec{M: 1000000000}},
		{"1000000000.5", api.Dec{M: 1000000000}},
		{"000000000000000001", api.Dec{M: 1}},
		{"1.12345678", api.Dec{M: 11235, S: 4}},
	} {
		a, n, e := feel.Parse(x.s)
		if want := (api.Expr{Kind: api.ExprNum, D: x.d}); !reflect.DeepEqual(a, want) || n != len(x.s) || e != api.OK {
			t.Errorf("Parse(%q): %#v, %d, %v", x.s, a, n, e)
		}
	}
}

func TestParseOfNumbersBeyond(t *testing.T) {
	for _, s := range []string{"1000000001", "1000000000.6", "0000000000000000001", "1.123456789", "999999999999999999", "12345678901234567890.5"} {
		wrong(t, s, 0, api.ErrOver)
		wrong(t, "  "+s, 2, api.ErrOver)
		wrong(t, "-"+s, 1, api.ErrOver)
		wrong(t, "1 + "+s+" )", 4, api.ErrOver)
		wrong(t, "["+s, 1, api.ErrOver)
		wrong(t, "f(1,"+s, 4, api.ErrOver)
		wrong(t, "x in (1.."+s, 9, api.ErrOver)
		wrong(t, "if a then "+s+" or", 10, api.ErrOver)
		wrong(t, ") "+s, 0, api.ErrForm)
		wrong(t, "1 "+s, 2, api.ErrForm)
		wrong(t, "x "+s, 2, api.ErrForm)
		wrong(t, s+" 1000000001", 0, api.ErrOver)
		wrong(t, s+" !", len(s)+1, api.ErrForm)
	}
}

func TestParseOfEachOperator(t *testing.T) {
	for _, op := range operators() {
		right(t, "a "+op+" b", "{"+op+" a b}")
		right(t, "(a "+op+" b)", "{"+op+" a b}")
		right(t, "1 "+op+" \"t\"", "{"+op+" 1 \"t\"}")
		wrong(t, "a "+op, 2+len(op), api.ErrForm)
		wrong(t, "a "+op+" ", 3+len(op), api.ErrForm)
		wrong(t, "a "+op+" * b", 3+len(op), api.ErrForm)
		wrong(t, "a "+op+" )", 3+len(op), api.ErrForm)
		wrong(t, "a "+op+" then", 3+len(op), api.ErrForm)
		wrong(t, "a "+op+" b c", 5+len(op), api.ErrForm)
		if op != "-" {
			wrong(t, op+" a", 0, api.ErrForm)
			wrong(t, "a "+op+" "+op+" b", 3+len(op), api.ErrForm)
		}
	}
	right(t, "a<b", "{< a b}")
	right(t, "a-1", "{- a 1}")
	right(t, "1-a", "{- 1 a}")
}

// level is how close an operator binds.
func level(op string) int {
	switch op {
	case "or":
		return 0
	case "and":
		return 1
	case "+", "-":
		return 3
	case "*", "/":
		return 4
	}
	return 2
}

func TestParseOfTwoOperators(t *testing.T) {
	for _, p := range operators() {
		for _, q := range operators() {
			s := "a " + p + " b " + q + " c"
			left, right3 := "{"+q+" {"+p+" a b} c}", "{"+p+" a {"+q+" b c}}"
			switch {
			case level(p) == 2 && level(q) == 2:
				wrong(t, s, 5+len(p), api.ErrForm)
			case level(p) >= level(q):
				right(t, s, left)
			default:
				right(t, s, right3)
			}
			right(t, "(a "+p+" b) "+q+" c", left)
			right(t, "a "+p+" (b "+q+" c)", right3)
		}
	}
}

func TestParseOfManyOperators(t *testing.T) {
	right(t, "a or b or c or d", "{or {or {or a b} c} d}")
	right(t, "a and b and c and d", "{and {and {and a b} c} d}")
	right(t, "1 - 2 + 3 - 4", "{- {+ {- 1 2} 3} 4}")
	right(t, "1 / 2 * 3 / 4", "{/ {* {/ 1 2} 3} 4}")
	right(t, "a or b and c = d + e * f", "{or a {and b {= c {+ d {* e f}}}}}")
	right(t, "a * b + c = d and e or f", "{or {and {= {+ {* a b} c} d} e} f}")
	right(t, "a < b and c > d or e in [f..g] and h", "{or {and {< a b} {> c d}} {and {in [] e f g} h}}")
	right(t, "(a or b) and (c or d)", "{and {or a b} {or c d}}")
	right(t, "(a < b) < (c < d)", "{< {< a b} {< c d}}")
}

func TestParseOfOneRelationAlone(t *testing.T) {
	for _, p := range relations() {
		wrong(t, "a "+p+" b in [1..2]", 5+len(p), api.ErrForm)
		wrong(t, "a in [1..2] "+p+" b", 12, api.ErrForm)
		right(t, "(a "+p+" b) in [1..2]", "{in [] {"+p+" a b} 1 2}")
		right(t, "a "+p+" (b in [1..2])", "{"+p+" a {in [] b 1 2}}")
		right(t, "a in [1..2] and b "+p+" c", "{and {in [] a 1 2} {"+p+" b c}}")
	}
	wrong(t, "a in [1..2] in [1..2]", 12, api.ErrForm)
	right(t, "(a in [1..2]) in [1..2]", "{in [] {in [] a 1 2} 1 2}")
	wrong(t, "f(a < b < c)", 8, api.ErrForm)
}

func TestParseOfSigns(t *testing.T) {
	right(t, "-x", "{neg x}")
	right(t, "- 1", "{neg 1}")
	right(t, "--x", "{neg {neg x}}")
	right(t, "-x * y", "{* {neg x} y}")
	right(t, "-x + y", "{+ {neg x} y}")
	right(t, "x * -y", "{* x {neg y}}")
	right(t, "x - -y", "{- x {neg y}}")
	right(t, "x - - - y", "{- x {neg {neg y}}}")
	right(t, "-x < -y", "{< {neg x} {neg y}}")
	right(t, "-(x + y)", "{neg {+ x y}}")
	right(t, "-f(x)", "{neg f(x)}")
	right(t, "-[x]", "{neg [x]}")
	right(t, "-null", "{neg null}")
	right(t, "-if a then b else c + d", "{neg {if a b {+ c d}}}")
	right(t, "-x in [-1..-2]", "{in [] {neg x} {neg 1} {neg 2}}")
	wrong(t, "-", 1, api.ErrForm)
	wrong(t, "--", 2, api.ErrForm)
	wrong(t, "-)", 1, api.ErrForm)
	wrong(t, "-+x", 1, api.ErrForm)
	wrong(t, "+x", 0, api.ErrForm)
	wrong(t, "x -", 3, api.ErrForm)
}

func TestParseOfRanges(t *testing.T) {
	right(t, "x in [1..2]", "{in [] x 1 2}")
	right(t, "x in [1..2)", "{in [) x 1 2}")
	right(t, "x in (1..2]", "{in (] x 1 2}")
	right(t, "x in (1..2)", "{in () x 1 2}")
	right(t, "x in[1 .. 2]", "{in [] x 1 2}")
	right(t, "x + 1 in [a..b]", "{in [] {+ x 1} a b}")
	right(t, "x in [a or b..c and d)", "{in [) x {or a b} {and c d}}")
	right(t, "x in ((1)..(2))", "{in () x 1 2}")
	right(t, "x in [[1]..[2]]", "{in [] x [1] [2]}")
	right(t, "x in [y in [1..2]..3]", "{in [] x {in [] y 1 2} 3}")
	right(t, "x in [1..y in (2..3)]", "{in [] x 1 {in () y 2 3}}")
	right(t, "x in [if a then b else c..d]", "{in [] x {if a b c} d}")
	right(t, "x in [f(1)..g(2)]", "{in [] x f(1) g(2)}")
	wrong(t, "x in", 4, api.ErrForm)
	wrong(t, "x in 1", 5, api.ErrForm)
	wrong(t, "x in y", 5, api.ErrForm)
	wrong(t, "x in ]", 5, api.ErrForm)
	wrong(t, "x in [", 6, api.ErrForm)
	wrong(t, "x in []", 6, api.ErrForm)
	wrong(t, "x in [..2]", 6, api.ErrForm)
	wrong(t, "x in [1", 7, api.ErrForm)
	wrong(t, "x in [1]", 7, api.ErrForm)
	wrong(t, "x in [1,2]", 7, api.ErrForm)
	wrong(t, "x in (1)..2)", 7, api.ErrForm)
	wrong(t, "x in [1..", 9, api.ErrForm)
	wrong(t, "x in [1..]", 9, api.ErrForm)
	wrong(t, "x in [1..2", 10, api.ErrForm)
	wrong(t, "x in [1..2..3]", 10, api.ErrForm)
	wrong(t, "x in [1..2[", 10, api.ErrForm)
	wrong(t, "x in [1..2] y", 12, api.ErrForm)
	wrong(t, "in [1..2]", 0, api.ErrForm)
	wrong(t, "1..2", 1, api.ErrForm)
	wrong(t, "[1..2]", 2, api.ErrForm)
	wrong(t, "(1..2)", 2, api.ErrForm)
	wrong(t, "f(1..2)", 3, api.ErrForm)
}

func TestParseOfCalls(t *testing.T) {
	right(t, "f()", "f()")
	right(t, "f ( )", "f()")
	right(t, "f(x)", "f(x)")
	right(t, "f(1, 2)", "f(1 2)")
	right(t, "f(a,b,c,d,e,f,g,h,i,j)", "f(a b c d e f g h i j)")
	right(t, "not(a)", "not(a)")
	right(t, "f(g(), h(x))", "f(g() h(x))")
	right(t, "f(a or b, -c, [d], (e))", "f({or a b} {neg c} [d] e)")
	right(t, "f(if a then b else c, d)", "f({if a b c} d)")
	right(t, "f(x) + g(y)", "{+ f(x) g(y)}")
	right(t, "f(x in (1..2))", "f({in () x 1 2})")
	wrong(t, "f(", 2, api.ErrForm)
	wrong(t, "f(,", 2, api.ErrForm)
	wrong(t, "f(]", 2, api.ErrForm)
	wrong(t, "f(x", 3, api.ErrForm)
	wrong(t, "f(x]", 3, api.ErrForm)
	wrong(t, "f(x y)", 4, api.ErrForm)
	wrong(t, "f(x,", 4, api.ErrForm)
	wrong(t, "f(x,)", 4, api.ErrForm)
	wrong(t, "f(x,,y)", 4, api.ErrForm)
	wrong(t, "f(x))", 4, api.ErrForm)
	wrong(t, "f()()", 3, api.ErrForm)
	wrong(t, "f() x", 4, api.ErrForm)
	wrong(t, "f[1]", 1, api.ErrForm)
	wrong(t, "f)", 1, api.ErrForm)
	wrong(t, "1(x)", 1, api.ErrForm)
	wrong(t, `"f"(x)`, 3, api.ErrForm)
	wrong(t, "(f)(x)", 3, api.ErrForm)
	wrong(t, "not a", 4, api.ErrForm)
}

func TestParseOfLists(t *testing.T) {
	right(t, "[]", "[]")
	right(t, "[ ]", "[]")
	right(t, "[1]", "[1]")
	right(t, "[1, x, \"t\", null]", `[1 x "t" null]`)
	right(t, "[1,2,3,4,5,6,7,8,9,10]", "[1 2 3 4 5 6 7 8 9 10]")
	right(t, "[[], [1], [[2], 3]]", "[[] [1] [[2] 3]]")
	right(t, "[a or b, if a then b else c, -d]", "[{or a b} {if a b c} {neg d}]")
	right(t, "[1] + [2]", "{+ [1] [2]}")
	wrong(t, "[", 1, api.ErrForm)
	wrong(t, "[)", 1, api.ErrForm)
	wrong(t, "[,]", 1, api.ErrForm)
	wrong(t, "[1", 2, api.ErrForm)
	wrong(t, "[1)", 2, api.ErrForm)
	wrong(t, "[1 2]", 3, api.ErrForm)
	wrong(t, "[1,", 3, api.ErrForm)
	wrong(t, "[1,]", 3, api.ErrForm)
	wrong(t, "[1,,2]", 3, api.ErrForm)
	wrong(t, "[]]", 2, api.ErrForm)
	wrong(t, "[][]", 2, api.ErrForm)
	wrong(t, "]", 0, api.ErrForm)
}

func TestParseOfBrackets(t *testing.T) {
	right(t, "(x)", "x")
	right(t, "((x))", "x")
	right(t, "((1) + ((2)))", "{+ 1 2}")
	right(t, "(if a then b else c) + 1", "{+ {if a b c} 1}")
	right(t, "(-x)", "{neg x}")
	wrong(t, "()", 1, api.ErrForm)
	wrong(t, "(", 1, api.ErrForm)
	wrong(t, "(x", 2, api.ErrForm)
	wrong(t, "(x]", 2, api.ErrForm)
	wrong(t, "(x,y)", 2, api.ErrForm)
	wrong(t, "(x y)", 3, api.ErrForm)
	wrong(t, "(x))", 3, api.ErrForm)
	wrong(t, "(x)y", 3, api.ErrForm)
	wrong(t, ")", 0, api.ErrForm)
}

func TestParseOfIfs(t *testing.T) {
	right(t, "if a then b else c", "{if a b c}")
	right(t, "if a or b then c and d else e < f", "{if {or a b} {and c d} {< e f}}")
	right(t, "if a then b else c or d", "{if a b {or c d}}")
	right(t, "1 + if a then b else c + 2", "{+ 1 {if a b {+ c 2}}}")
	right(t, "1 * if a then b else c + 2", "{* 1 {if a b {+ c 2}}}")
	right(t, "if if a then b else c then d else e", "{if {if a b c} d e}")
	right(t, "if a then if b then c else d else e", "{if a {if b c d} e}")
	right(t, "if a then b else if c then d else e", "{if a b {if c d e}}")
	right(t, "if(a)then(b)else(c)", "{if a b c}")
	right(t, "if[1]then[]else[2]", "{if [1] [] [2]}")
	// what the last part can not take, the one that has the if can
	right(t, "if a then b else c < d < e", "{< {if a b {< c d}} e}")
	right(t, "if a then b else c in [1..2] in (3..4)", "{in () {if a b {in [] c 1 2}} 3 4}")
	wrong(t, "if a then b else c < d < e < f", 27, api.ErrForm)
	wrong(t, "if", 2, api.ErrForm)
	wrong(t, "if then", 3, api.ErrForm)
	wrong(t, "if a", 4, api.ErrForm)
	wrong(t, "if a b", 5, api.ErrForm)
	wrong(t, "if a else b", 5, api.ErrForm)
	wrong(t, "if a then", 9, api.ErrForm)
	wrong(t, "if a then else", 10, api.ErrForm)
	wrong(t, "if a then b", 11, api.ErrForm)
	wrong(t, "if a then b then c", 12, api.ErrForm)
	wrong(t, "if a then b else", 16, api.ErrForm)
	wrong(t, "if a then b else )", 17, api.ErrForm)
	wrong(t, "if a then b else c d", 19, api.ErrForm)
	wrong(t, "if a then b else c else d", 19, api.ErrForm)
	wrong(t, "then", 0, api.ErrForm)
	wrong(t, "else", 0, api.ErrForm)
	wrong(t, "a then b", 2, api.ErrForm)
}

func TestParseOfWords(t *testing.T) {
	for _, w := range []string{"then", "else", "and", "or", "in"} {
		wrong(t, w, 0, api.ErrForm)
		wrong(t, w+"(x)", 0, api.ErrForm)
		wrong(t, "-"+w, 1, api.ErrForm)
		wrong(t, "["+w+"]", 1, api.ErrForm)
		wrong(t, "f("+w+")", 2, api.ErrForm)
		wrong(t, "1 + "+w, 4, api.ErrForm)
	}
	for _, w := range []string{"true", "false", "null"} {
		wrong(t, w+"(x)", len(w), api.ErrForm)
		wrong(t, w+"()", len(w), api.ErrForm)
		right(t, "("+w+")", w)
		right(t, "["+w+"]", "["+w+"]")
		right(t, w+" and "+w, "{and "+w+" "+w+"}")
	}
	wrong(t, "x if a then b else c", 2, api.ErrForm)
	wrong(t, "x true", 2, api.ErrForm)
	// a text that says a word or a sign is a text
	wrong(t, `a "or" b`, 2, api.ErrForm)
	wrong(t, `a "+" b`, 2, api.ErrForm)
	wrong(t, `a "in" [1..2]`, 2, api.ErrForm)
	wrong(t, `f"("x)`, 1, api.ErrForm)
	wrong(t, `[1 "," 2]`, 3, api.ErrForm)
	wrong(t, `if a "then" b else c`, 5, api.ErrForm)
	right(t, `"-" + "("`, `{+ "-" "("}`)
}

func TestParseOfLexErrors(t *testing.T) {
	long := strings.Repeat(" ", api.MaxSource)
	right(t, "x"+long[1:], "x")
	wrong(t, "x"+long, 0, api.ErrLong)
	wrong(t, ")"+long, 0, api.ErrLong)
	wrong(t, "abcdefghi", 0, api.ErrLong)
	wrong(t, "1 + abcdefghi", 4, api.ErrLong)
	wrong(t, "x !", 2, api.ErrForm)
	wrong(t, "X", 0, api.ErrForm)
	wrong(t, "x + \"abc", 4, api.ErrForm)
	wrong(t, "x + \"abcdefghijklmnopq\"", 4, api.ErrLong)
	// they go ahead of what stands more to the left
	wrong(t, ") + abcdefghi", 4, api.ErrLong)
	wrong(t, "1000000001 #", 11, api.ErrForm)
	wrong(t, "(((((((((((( ?", 13, api.ErrForm)
	// as many tokens as there may be, and one more
	most := strings.Repeat("1+", api.MaxToks/2)
	wrong(t, most, len(most), api.ErrForm)
	wrong(t, most+"1", len(most), api.ErrLong)
	right(t, "-"+most[:len(most)-1], strings.Repeat("{+ ", api.MaxToks/2-1)+"{neg 1}"+strings.Repeat(" 1}", api.MaxToks/2-1))
}

func TestParseOfNothing(t *testing.T) {
	wrong(t, "", 0, api.ErrForm)
	wrong(t, " ", 1, api.ErrForm)
	wrong(t, strings.Repeat(" ", api.MaxSource), api.MaxSource, api.ErrForm)
	wrong(t, "x x", 2, api.ErrForm)
	wrong(t, "x 1", 2, api.ErrForm)
	wrong(t, "1 x", 2, api.ErrForm)
	wrong(t, "1x", 1, api.ErrForm)
	wrong(t, `"a""b"`, 3, api.ErrForm)
	wrong(t, ",", 0, api.ErrForm)
	wrong(t, "..", 0, api.ErrForm)
	wrong(t, "x,", 1, api.ErrForm)
	wrong(t, "x, y", 1, api.ErrForm)
	wrong(t, "< 5", 0, api.ErrForm)
	// the end is the text's, blanks and all
	wrong(t, "1 +   ", 6, api.ErrForm)
	wrong(t, " ( ", 3, api.ErrForm)
}

func TestParseOfTheFirstOfTwoErrors(t *testing.T) {
	wrong(t, "a b c d", 2, api.ErrForm)
	wrong(t, ") 1000000001", 0, api.ErrForm)
	wrong(t, "1000000001 )", 0, api.ErrOver)
	wrong(t, "[1000000001, 1.123456789]", 1, api.ErrOver)
	wrong(t, "((((((((((1000000001", 9, api.ErrDeep)
	wrong(t, "(1000000001 + (((((((((1", 1, api.ErrOver)
	wrong(t, "(((((((((1000000001", 9, api.ErrDeep)
	wrong(t, "((((((((1000000001", 8, api.ErrOver)
	wrong(t, "(((((((((", 9, api.ErrDeep)
	wrong(t, ") (((((((((", 0, api.ErrForm)
	wrong(t, "((((((((( )", 10, api.ErrDeep)
}

// Example of the chapter.
func TestParseOfTheExample(t *testing.T) {
	want := api.Expr{Kind: api.ExprBin, T: "+", Kids: []api.Expr{
		{Kind: api.ExprNum, D: api.Dec{M: 1}},
		{Kind: api.ExprBin, T: "*", Kids: []api.Expr{
			{Kind: api.ExprNum, D: api.Dec{M: 2}},
			{Kind: api.ExprName, T: "x"},
		}},
	}}
	if x, n, e := feel.Parse("1 + 2 * x"); !reflect.DeepEqual(x, want) || n != 9 || e != api.OK {
		t.Errorf("%#v, %d, %v", x, n, e)
	}
}
