package show_test

import (
	"reflect"
	"strings"
	"testing"

	"dossier/api"
	"dossier/feel"
	"dossier/show"
)

// full is an expression as it is, but for lists without an element.
func full(x api.Expr) api.Expr {
	kids := x.Kids
	x.Kids = nil
	for _, k := range kids {
		x.Kids = append(x.Kids, full(k))
	}
	return x
}

// tokens is how many tokens an expression's text has.
func tokens(x api.Expr) int {
	n := 0
	for _, k := range x.Kids {
		n += tokens(k)
	}
	commas := max(0, len(x.Kids)-1)
	switch x.Kind {
	case api.ExprBin, api.ExprNeg:
		return n + 3
	case api.ExprIf:
		return n + 5
	case api.ExprIn:
		return n + 6
	case api.ExprList:
		return n + 2 + commas
	case api.ExprCall:
		return n + 3 + commas
	}
	return 1
}

// depth is how deep an expression's text goes, if it begins at a depth.
func depth(x api.Expr, at int) int {
	most := at
	for i, k := range x.Kids {
		down := at + 1
		if x.Kind == api.ExprNeg || x.Kind == api.ExprIf || x.Kind == api.ExprIn && i > 0 {
			down++ // its brackets, and what is within them
		}
		most = max(most, depth(k, down))
	}
	return most
}

// readable is what Parse has to say of the text u of the expression x.
func readable(x api.Expr, u string) api.Errno {
	switch {
	case len(u) > api.MaxSource || tokens(x) > api.MaxToks:
		return api.ErrLong
	case depth(x, 0) > api.MaxDeep:
		return api.ErrDeep
	}
	return api.OK
}

// back parses a text, tells what it is, and parses that: it is what Parse
// says of the first text and of the second one.
func back(t *testing.T, s string) (first, second api.Errno) {
	t.Helper()
	x, _, first := feel.Parse(s)
	if first != api.OK {
		return first, first
	}
	u := show.Expr(x)
	y, n, second := feel.Parse(u)
	if second != readable(x, u) {
		t.Fatalf("%q: told %q: %v, not %v", s, u, second, readable(x, u))
	}
	if second != api.OK {
		return first, second
	}
	if n != len(u) || !feel.Same(x, y) || !reflect.DeepEqual(full(x), full(y)) {
		t.Fatalf("%q: told %q: that is another one", s, u)
	}
	if again := show.Expr(y); again != u {
		t.Fatalf("%q: told %q, then %q", s, u, again)
	}
	return first, second
}

// asks asks for what Parse says of a told text.
func asks(t *testing.T, s string, want api.Errno) {
	t.Helper()
	if first, second := back(t, s); first != api.OK || second != want {
		t.Errorf("%q: %v, then %v; not %v", s, first, second, want)
	}
}

func TestBackOfTexts(t *testing.T) {
	for _, p := range []struct{ s, told string }{
		{"null", "null"}, {"true", "true"}, {"false", "false"},
		{"0", "0"}, {"007", "7"}, {"2.50", "2.5"}, {"0.00015", "0.0002"}, {"1000000000.5", "1000000000"},
		{`""`, `""`}, {`"a b"`, `"a b"`}, {"x", "x"}, {"not", "not"}, {"((x))", "x"},
		{"-x", "(-x)"}, {"-1", "(-1)"}, {"--1", "(-(-1))"}, {"-0.5", "(-0.5)"}, {"1--2", "(1 - (-2))"}, {"-(a+b)", "(-(a + b))"}, {"-a+b", "((-a) + b)"},
		{"1+2*x", "(1 + (2 * x))"}, {"(1+2)*x", "((1 + 2) * x)"}, {"1-2-3", "((1 - 2) - 3)"}, {"1-(2-3)", "(1 - (2 - 3))"},
		{"a or b and c", "(a or (b and c))"}, {"a<b and c>=d", "((a < b) and (c >= d))"}, {"(a<b)<c", "((a < b) < c)"},
		{"[ ]", "[]"}, {"[1,2,[x]]", "[1, 2, [x]]"}, {"f ( )", "f()"}, {"f(1,g(2))", "f(1, g(2))"}, {"f((1))", "f(1)"},
		{"x in[1..2]", "(x in [1..2])"}, {"x in [1..2)", "(x in [1..2))"}, {"x in (1..2]", "(x in (1..2])"}, {"x in (1..2)", "(x in (1..2))"},
		{"1.5 in [0.5..2.5]", "(1.5 in [0.5..2.5])"}, {"x in ((a)..(b))", "(x in (a..b))"}, {"x in (-1..-a)", "(x in ((-1)..(-a)))"},
		{"x in [[1]..[2]]", "(x in [[1]..[2]])"}, {"x in [f()..g()]", "(x in [f()..g()])"}, {`x in ["a".."b"]`, `(x in ["a".."b"])`},
		{"x in (y in (1..2)..3)", "(x in ((y in (1..2))..3))"},
		{"if a then b else c", "(if a then b else c)"}, {"if a then b else c+1", "(if a then b else (c + 1))"}, {"(if a then b else c)+1", "((if a then b else c) + 1)"},
		{"if a then b else c<d<e", "((if a then b else (c < d)) < e)"}, {"1+if a then b else c", "(1 + (if a then b else c))"},
		{"if if a then b else c then d else e", "(if (if a then b else c) then d else e)"},
	} {
		x, _, e := feel.Parse(p.s)
		if s := show.Expr(x); e != api.OK || s != p.told {
			t.Errorf("%q: %v, told %q, not %q", p.s, e, s, p.told)
		}
		asks(t, p.s, api.OK)
		asks(t, p.told, api.OK)
	}
}

func TestBackOfEachOperator(t *testing.T) {
	for _, p := range operators() {
		asks(t, "a "+p+" b", api.OK)
		for _, q := range operators() {
			asks(t, "(a "+p+" b) "+q+" c", api.OK)
			asks(t, "a "+p+" (b "+q+" c)", api.OK)
			asks(t, "-a "+p+" (if b "+q+" c then d else -e)", api.OK)
		}
	}
}

// What was parsed goes as deep as it may, and its text as deep, or deeper.
func TestBackOfDeep(t *testing.T) {
	wrap := func(n int, open, shut string) string {
		return strings.Repeat(open, n) + "x" + strings.Repeat(shut, n)
	}
	for _, w := range []struct {
		open, shut string
		most, over int // the greatest one that is not too deep when told, the least one that is
	}{
		{"[", "]", 8, 0},
		{"[a,", "]", 8, 0},
		{"f(", ")", 8, 0},
		{"(", ")", 8, 0},
		{"-", "", 4, 5},
		{"if ", " then a else b", 4, 5},
		{"if a then b else ", "", 4, 5},
		{"a in[", "..b]", 4, 5},
		{"a in(b..", ")", 4, 5},
		{"", "+a", 8, 9},
		{"", "*a", 8, 9},
		{"", " or a", 8, 9},
		{"a+(", ")", 8, 0},
	} {
		asks(t, wrap(w.most, w.open, w.shut), api.OK)
		if w.over > 0 {
			asks(t, wrap(w.over, w.open, w.shut), api.ErrDeep)
		}
	}
	asks(t, "[[[[[[[[[]]]]]]]]]", api.OK)
	asks(t, "[[[[[[[[f()]]]]]]]]", api.OK)
	asks(t, "[[[[[[[a+b]]]]]]]", api.OK)
	asks(t, "[[[[[[[[a+b]]]]]]]]", api.ErrDeep)
	asks(t, "[[[[[[-a]]]]]]", api.OK)
	asks(t, "[[[[[[[-a]]]]]]]", api.ErrDeep)
	asks(t, "((((((((x))))))))", api.OK)
}

// Told, a sum has two more tokens, a sign two more, and a comma a blank.
func TestBackOfManyTokens(t *testing.T) {
	sums := func(n int) string { return strings.TrimSuffix(strings.Repeat("1+1,", n), ",") }
	asks(t, "["+sums(9)+",-x]", api.OK) // 60
	asks(t, "["+sums(10)+"]", api.ErrLong)
	asks(t, "["+sums(9)+",-x,y]", api.ErrLong)
	asks(t, "f("+sums(9)+",x,y)", api.OK) // 60
	asks(t, "f("+sums(9)+",-x)", api.ErrLong)
	// both too many and too deep
	asks(t, strings.Repeat("1+", 29)+"1", api.ErrLong)
}

func TestBackOfLong(t *testing.T) {
	long := `"abcdefghijklmnop"`
	texts := func(n int) string { return strings.TrimSuffix(strings.Repeat(long+",", n), ",") }
	asks(t, "["+texts(10)+"]", api.OK) // 200
	asks(t, "["+texts(9)+`,abcdefgh,"123456"]`, api.OK)
	asks(t, "["+texts(9)+`,abcdefgh,"1234567"]`, api.ErrLong)
	asks(t, "["+texts(9)+`,-abcdefgh,"123"]`, api.OK)
	asks(t, "["+texts(9)+`,-abcdefgh,"1234"]`, api.ErrLong)
	asks(t, "x"+strings.Repeat(" ", api.MaxSource-1), api.OK)
}

// Each text of few tokens that is an expression.
func TestBackOfAllShortTexts(t *testing.T) {
	marks := []string{"x", "1", `"t"`, "null", "(", ")", "[", "]", ",", "-", "+", "*", "<", "or", "and"}
	seen := 0
	var more func(s string, n int)
	more = func(s string, n int) {
		if first, second := back(t, s); first == api.OK {
			seen++
			if second != api.OK {
				t.Fatalf("%q: %v", s, second)
			}
		}
		if n == 0 {
			return
		}
		for _, m := range marks {
			more(s+" "+m, n-1)
		}
	}
	more("", 5)
	more("x in [", 4)
	more("if x then y else", 3)
	more("f (", 4)
	if seen < 1000 {
		t.Errorf("too few were expressions: %d", seen)
	}
}

// draw is drawn numbers, the same ones each time.
type draw uint64

func (x *draw) next(n int) int {
	*x = *x*6364136223846793005 + 1442695040888963407
	return int(*x>>33) % n
}

func (x *draw) of(l ...string) string { return l[x.next(len(l))] }

// row is drawn texts, so many at most, with commas between.
func (x *draw) row(n, deep int) string {
	var l []string
	for range x.next(n + 1) {
		l = append(l, x.text(deep))
	}
	return strings.Join(l, x.of(",", ", "))
}

func (x *draw) leaf() string {
	return x.of("null", "true", "false", "0", "1", "2.5", "0.0001", "10.50", "1000000000", `""`, `"t"`, `"a (b"`, "x", "abcdefgh", "not", "[]", "f()")
}

// text is a drawn expression as a text, mostly without brackets of its own.
func (x *draw) text(deep int) string {
	if deep == 0 {
		return x.leaf()
	}
	down := func() string { return x.text(x.next(deep)) }
	switch x.next(10) {
	case 0:
		return "-" + down()
	case 1:
		return "if " + down() + " then " + down() + " else " + down()
	case 2:
		return "[" + x.row(4, deep-1) + "]"
	case 3:
		return x.of("f", "g1", "abcdefgh") + "(" + x.row(3, deep-1) + ")"
	case 4:
		return x.leaf() + " in " + x.of("[", "(") + down() + ".." + down() + x.of("]", ")")
	case 5:
		return "(" + down() + ") in " + x.of("[", "(") + down() + " .. " + down() + x.of("]", ")")
	case 6:
		return "(" + x.text(deep-1) + ") " + x.of(operators()...) + " (" + x.text(deep-1) + ")"
	}
	return x.text(deep-1) + " " + x.of(operators()...) + " " + down()
}

// tower is a drawn text of so many expressions within one another, each with small ones beside it.
func (x *draw) tower(n int) string {
	s := x.leaf()
	for range n {
		switch x.next(7) {
		case 0:
			s = "-" + s
		case 1:
			s = "if a then " + s + " else " + x.of("b", "1")
		case 2:
			s = "[" + s + x.of("", ",b") + "]"
		case 3:
			s = "f(" + x.of("", "a,") + s + ")"
		case 4:
			s = "a in " + x.of("[", "(") + s + "..b" + x.of("]", ")")
		default:
			s = s + " " + x.of(operators()...) + " " + x.of("a", "-b", "2")
		}
	}
	return s
}

func TestBackOfDrawnTexts(t *testing.T) {
	x := draw(1)
	seen := map[api.Errno]int{}
	for i := range 60000 {
		s := x.tower(x.next(12))
		if i%2 == 0 {
			s = x.text(x.next(7))
		}
		if first, second := back(t, s); first == api.OK {
			seen[second]++
		}
	}
	if seen[api.OK] < 10000 || seen[api.ErrDeep] < 1000 || seen[api.ErrLong] < 100 || len(seen) != 3 {
		t.Errorf("too few of a kind were drawn: %v", seen)
	}
}

// What no text is may be told too: brackets then keep it what it is.
func TestBackOfAllSmallExpressions(t *testing.T) {
	seen := 0
	for _, outer := range branches() {
		for i := range len(outer.around) - 1 {
			for _, middle := range branches() {
				for k := range len(middle.around) - 1 {
					for _, inner := range branches() {
						p := outer.put(i, middle.put(k, inner.put(0, pair{num(25, 1), "2.5"})))
						x, n, e := feel.Parse(show.Expr(p.x))
						if e != api.OK || n != len(p.text) || !feel.Same(x, p.x) {
							t.Fatalf("%q: %d, %v, or another one", p.text, n, e)
						}
						seen++
					}
				}
			}
		}
	}
	if seen == 0 {
		t.Error("none was asked")
	}
}
