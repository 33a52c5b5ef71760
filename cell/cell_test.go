package cell_test

import (
	"reflect"
	"strconv"
	"strings"
	"testing"

	"dossier/api"
	"dossier/cell"
	"dossier/show"
)

// told is tests in words.
func told(l []api.Test) string {
	var all []string
	for _, x := range l {
		all = append(all, toldOne(x))
	}
	return strings.Join(all, "; ")
}

func toldOne(x api.Test) string {
	switch x.Kind {
	case api.TestAny:
		return "any"
	case api.TestCmp:
		return x.Rel + " " + show.Expr(x.A)
	case api.TestRange:
		return edge(x.Lo, "from ", "behind ") + show.Expr(x.A) + edge(x.Hi, " to ", " ahead of ") + show.Expr(x.B)
	case api.TestNot:
		return "none{" + told(x.Kids) + "}"
	}
	return "?" + strconv.Itoa(x.Kind)
}

func edge(is bool, yes, no string) string {
	if is {
		return yes
	}
	return no
}

// bare is tests with nothing but what their Kinds name, and nil for lists without an element.
func bare(l []api.Test) []api.Test {
	var all []api.Test
	for _, x := range l {
		b := api.Test{Kind: x.Kind}
		switch x.Kind {
		case api.TestCmp:
			b.Rel, b.A = x.Rel, bareExpr(x.A)
		case api.TestRange:
			b.A, b.B, b.Lo, b.Hi = bareExpr(x.A), bareExpr(x.B), x.Lo, x.Hi
		case api.TestNot:
			b.Kids = bare(x.Kids)
		}
		all = append(all, b)
	}
	return all
}

func bareExpr(x api.Expr) api.Expr {
	b := api.Expr{Kind: x.Kind}
	switch x.Kind {
	case api.ExprBool:
		b.B = x.B
	case api.ExprNum:
		b.D = x.D
	case api.ExprText, api.ExprName, api.ExprBin, api.ExprCall:
		b.T = x.T
	case api.ExprIn:
		b.Lo, b.Hi = x.Lo, x.Hi
	}
	for _, k := range x.Kids {
		b.Kids = append(b.Kids, bareExpr(k))
	}
	return b
}

// full is tests as they are, but for lists without an element.
func full(l []api.Test) []api.Test {
	var all []api.Test
	for _, x := range l {
		x.A, x.B, x.Kids = fullExpr(x.A), fullExpr(x.B), full(x.Kids)
		all = append(all, x)
	}
	return all
}

func fullExpr(x api.Expr) api.Expr {
	kids := x.Kids
	x.Kids = nil
	for _, k := range kids {
		x.Kids = append(x.Kids, fullExpr(k))
	}
	return x
}

// right asks for a cell's tests, which has nothing wrong.
func right(t *testing.T, s, want string) {
	t.Helper()
	l, n, e := cell.Parse(s)
	if told(l) != want || n != len(s) || e != api.OK {
		t.Errorf("Parse(%.300q): %s, %d, %v; not %s, %d, OK", s, told(l), n, e, want, len(s))
	}
	if !reflect.DeepEqual(full(l), bare(l)) {
		t.Errorf("Parse(%.300q): a field is set that its Kind does not name: %#v", s, l)
	}
}

// wrong asks for the place of a cell's first error.
func wrong(t *testing.T, s string, at int, want api.Errno) {
	t.Helper()
	if l, n, e := cell.Parse(s); len(l) != 0 || n != at || e != want {
		t.Errorf("Parse(%.300q): %s, %d, %v; not %d, %v", s, told(l), n, e, at, want)
	}
}

// parsed is a cell's tests in a test that asks for something else.
func parsed(t *testing.T, s string) []api.Test {
	t.Helper()
	l, _, e := cell.Parse(s)
	if e != api.OK {
		t.Fatalf("Parse(%.300q): %v", s, e)
	}
	return l
}

func relations() []string { return []string{"<", "<=", ">", ">=", "=", "!="} }

// row is n tests, with commas between: 1, 2, and so on.
func row(n int) string {
	var l []string
	for i := range n {
		l = append(l, strconv.Itoa(i+1))
	}
	return strings.Join(l, ", ")
}

// toldRow is what row tells.
func toldRow(n int) string {
	return "= " + strings.ReplaceAll(row(n), ", ", "; = ")
}

func TestParseOfAny(t *testing.T) {
	for _, s := range []string{"-", " -", "- ", "   -  "} {
		right(t, s, "any")
	}
	right(t, `"-"`, `= "-"`)
	right(t, `"-", "-"`, `= "-"; = "-"`)
	wrong(t, "- -", 3, api.ErrForm)
	wrong(t, "-, 1", 1, api.ErrForm)
	wrong(t, "-,", 1, api.ErrForm)
	wrong(t, "-, -", 1, api.ErrForm)
	wrong(t, "1, -", 4, api.ErrForm)
	wrong(t, "1, -, 2", 4, api.ErrForm)
	wrong(t, "- < 1", 2, api.ErrForm)
	wrong(t, "-)", 1, api.ErrForm)
	wrong(t, "(-)", 2, api.ErrForm)
	wrong(t, "= -", 3, api.ErrForm)
	wrong(t, "not(-)", 5, api.ErrForm)
	wrong(t, "not(1, -)", 8, api.ErrForm)
	wrong(t, "not(-, 1)", 5, api.ErrForm)
	wrong(t, "not -", 5, api.ErrForm)
}

// What begins with a sign and is more than that is an expression.
func TestParseOfASignAhead(t *testing.T) {
	right(t, "-1", "= (-1)")
	right(t, "- 1", "= (-1)")
	right(t, "--1", "= (-(-1))")
	right(t, "-x - y", "= ((-x) - y)")
	right(t, "-(1)", "= (-1)")
	right(t, "-[1]", "= (-[1])")
	right(t, "-not", "= (-not)")
	right(t, "-1, -2", "= (-1); = (-2)")
	right(t, "not(-1)", "none{= (-1)}")
	right(t, "[-1..-x]", "from (-1) to (-x)")
	right(t, "1 - 1", "= (1 - 1)")
	wrong(t, "-1 -", 4, api.ErrForm)
	wrong(t, "-[1..2]", 3, api.ErrForm)
	wrong(t, "-(1..2]", 3, api.ErrForm)
}

func TestParseOfNot(t *testing.T) {
	right(t, "not(1)", "none{= 1}")
	right(t, " not ( 1 ) ", "none{= 1}")
	right(t, "not(1, < 2, [3..4), \"a\", x)", "none{= 1; < 2; from 3 ahead of 4; = \"a\"; = x}")
	right(t, "not((1))", "none{= 1}")
	right(t, "not((1..2))", "none{behind 1 ahead of 2}")
	right(t, "not([1..2])", "none{from 1 to 2}")
	right(t, "not([])", "none{= []}")
	right(t, "not(not(1))", "none{= not(1)}")
	right(t, "not(not(1), 2)", "none{= not(1); = 2}")
	right(t, "not(1, not(2) and x)", "none{= 1; = (not(2) and x)}")
	right(t, "not(not)", "none{= not}")
	right(t, "not(f(1, 2))", "none{= f(1, 2)}")
	right(t, "not(= not(1))", "none{= not(1)}")
	for _, rel := range relations() {
		right(t, "not("+rel+" 1)", "none{"+rel+" 1}")
	}
	wrong(t, "not()", 4, api.ErrForm)
	wrong(t, "not(", 4, api.ErrForm)
	wrong(t, "not (", 5, api.ErrForm)
	wrong(t, "not( ", 5, api.ErrForm)
	wrong(t, "not(1", 5, api.ErrForm)
	wrong(t, "not(1  ", 7, api.ErrForm)
	wrong(t, "not(1]", 5, api.ErrForm)
	wrong(t, "not(1 2)", 6, api.ErrForm)
	wrong(t, "not(1,", 6, api.ErrForm)
	wrong(t, "not(1,)", 6, api.ErrForm)
	wrong(t, "not(,1)", 4, api.ErrForm)
	wrong(t, "not(1..2)", 5, api.ErrForm)
	wrong(t, "not([1..2)", 10, api.ErrForm)
	wrong(t, "not([1..2]", 10, api.ErrForm)
	wrong(t, "not((1..2]", 10, api.ErrForm)
	wrong(t, "not(<)", 5, api.ErrForm)
	wrong(t, "not(1000000001)", 4, api.ErrOver)
}

func TestParseOfMoreBehindNot(t *testing.T) {
	for _, more := range []string{", 1", ",", " 1", " x", ")", "]", " + 1", " and x", " < 1", " in [1..2]", " .. 2", " not", " (1)", " [1]", " or", " -"} {
		at := len("not(1)"+more) - len(strings.TrimLeft(more, " "))
		wrong(t, "not(1)"+more, at, api.ErrForm)
		wrong(t, "not(< 1, [1..2])"+more, at+10, api.ErrForm)
	}
	wrong(t, "not(1)(2)", 6, api.ErrForm)
	wrong(t, "not(1), not(2)", 6, api.ErrForm)
	wrong(t, "not(1) 1000000001", 7, api.ErrForm)
	wrong(t, "not(1) !", 7, api.ErrForm)
	wrong(t, "not(1) abcdefghi", 7, api.ErrLong)
}

// Where it does not begin the cell, or no bracket stands behind it, not is a name.
func TestParseOfNotAsAName(t *testing.T) {
	right(t, "not", "= not")
	right(t, " not ", "= not")
	right(t, "not + 1", "= (not + 1)")
	right(t, "not and not", "= (not and not)")
	right(t, "not < 1", "= (not < 1)")
	right(t, "not in [1..2]", "= (not in [1..2])")
	right(t, "not, 1", "= not; = 1")
	right(t, "not, not(1)", "= not; = not(1)")
	right(t, "not - not(1)", "= (not - not(1))")
	right(t, "1, not(2)", "= 1; = not(2)")
	right(t, "1, not(2, 3)", "= 1; = not(2, 3)")
	right(t, "1, not()", "= 1; = not()")
	right(t, "1, not", "= 1; = not")
	right(t, "< not", "< not")
	right(t, "= not(1)", "= not(1)")
	right(t, "= not()", "= not()")
	right(t, "< not(1) + 1", "< (not(1) + 1)")
	right(t, "(not(1))", "= not(1)")
	right(t, "[not(1)]", "= [not(1)]")
	right(t, "[not(1)..not]", "from not(1) to not")
	right(t, "f(not(1))", "= f(not(1))")
	right(t, "nota(1)", "= nota(1)")
	right(t, "not1(1)", "= not1(1)")
	right(t, "no(1)", "= no(1)")
	right(t, "x + not(1)", "= (x + not(1))")
	right(t, "not + (1)", "= (not + 1)")
	right(t, `"not"`, `= "not"`)
	wrong(t, `"not"(1)`, 5, api.ErrForm)
	wrong(t, "not 1", 4, api.ErrForm)
	wrong(t, "not [1]", 4, api.ErrForm)
	wrong(t, "not [1..2]", 4, api.ErrForm)
	wrong(t, "1, not(< 2)", 7, api.ErrForm)
	wrong(t, "1, not([2..3])", 9, api.ErrForm)
	wrong(t, "= not(< 2)", 6, api.ErrForm)
	wrong(t, "(not(< 2))", 5, api.ErrForm)
	wrong(t, "not(not(< 2))", 8, api.ErrForm)
	wrong(t, "not(not([1..2]))", 10, api.ErrForm)
}

func TestParseOfSigns(t *testing.T) {
	for _, rel := range relations() {
		right(t, rel+"1", rel+" 1")
		right(t, " "+rel+"  1 ", rel+" 1")
		right(t, rel+" x + 1", rel+" (x + 1)")
		right(t, rel+" -1", rel+" (-1)")
		right(t, rel+" (1)", rel+" 1")
		right(t, rel+" [1]", rel+" [1]")
		right(t, rel+` "<"`, rel+` "<"`)
		right(t, rel+" a < b", rel+" (a < b)")
		right(t, rel+" a and b or c", rel+" ((a and b) or c)")
		right(t, rel+" if a then b else c", rel+" (if a then b else c)")
		right(t, rel+" x in (1..2]", rel+" (x in (1..2])")
		right(t, rel+" 1, "+rel+" 2", rel+" 1; "+rel+" 2")
		right(t, "x, "+rel+" 1", "= x; "+rel+" 1")
		n := len(rel)
		wrong(t, rel, n, api.ErrForm)
		wrong(t, rel+"  ", n+2, api.ErrForm)
		wrong(t, rel+" ,", n+1, api.ErrForm)
		wrong(t, rel+" )", n+1, api.ErrForm)
		wrong(t, rel+" ..", n+1, api.ErrForm)
		wrong(t, rel+" 1 2", n+3, api.ErrForm)
		wrong(t, rel+" 1 ..", n+3, api.ErrForm)
		wrong(t, rel+" [1..2]", n+3, api.ErrForm)
		wrong(t, rel+" (1..2)", n+3, api.ErrForm)
		wrong(t, rel+" [1..", n+3, api.ErrForm)
		wrong(t, rel+" 1000000001", n+1, api.ErrOver)
		wrong(t, rel+" (((((((((1", n+10, api.ErrDeep)
		for _, next := range relations() {
			wrong(t, rel+" "+next+" 1", n+1, api.ErrForm)
			wrong(t, rel+" 1 < 2 "+next+" 3", n+7, api.ErrForm)
		}
		for _, op := range []string{"*", "/", "+", "and", "or", "in", "then", "else", "]"} {
			wrong(t, rel+" "+op+" 1", n+1, api.ErrForm)
		}
		right(t, `"`+rel+`"`, `= "`+rel+`"`)
		wrong(t, `"`+rel+`" 1`, n+3, api.ErrForm)
	}
}

func TestParseOfRanges(t *testing.T) {
	for _, ends := range []struct{ open, shut, from, to string }{
		{"[", "]", "from ", " to "}, {"[", ")", "from ", " ahead of "}, {"(", "]", "behind ", " to "}, {"(", ")", "behind ", " ahead of "},
	} {
		for _, p := range []struct{ low, high, a, b string }{
			{"1", "2", "1", "2"}, {"2", "1", "2", "1"}, {"0.5", "1.50", "0.5", "1.5"}, {`"a"`, `"b"`, `"a"`, `"b"`}, {"x", "y", "x", "y"}, {"not", "not(1)", "not", "not(1)"},
			{"a + 1", "b * 2", "(a + 1)", "(b * 2)"}, {"a or b", "c and d", "(a or b)", "(c and d)"}, {"-1", "--2", "(-1)", "(-(-2))"}, {"a < b", "c != d", "(a < b)", "(c != d)"},
			{"if a then b else c", "if d then e else f", "(if a then b else c)", "(if d then e else f)"}, {"x in [1..2]", "y in (3..4)", "(x in [1..2])", "(y in (3..4))"},
			{"(1)", "(2)", "1", "2"}, {"((a))", "(b) + (c)", "a", "(b + c)"}, {"[]", "[1, [2]]", "[]", "[1, [2]]"}, {"f()", "g(1, 2)", "f()", "g(1, 2)"}, {"null", "true", "null", "true"}, {"1", `"a"`, "1", `"a"`},
		} {
			want := ends.from + p.a + ends.to + p.b
			right(t, ends.open+p.low+".."+p.high+ends.shut, want)
			right(t, "  "+ends.open+" "+p.low+" .. "+p.high+"  "+ends.shut+" ", want)
			right(t, "7, "+ends.open+p.low+".."+p.high+ends.shut+", < 8", "= 7; "+want+"; < 8")
			right(t, "not("+ends.open+p.low+".."+p.high+ends.shut+")", "none{"+want+"}")
			s := ends.open + p.low + ".."
			wrong(t, s, len(s), api.ErrForm)
			wrong(t, s+ends.shut, len(s), api.ErrForm)
			wrong(t, s+",", len(s), api.ErrForm)
			wrong(t, s+".."+p.high, len(s), api.ErrForm)
			s += p.high
			wrong(t, s, len(s), api.ErrForm)
			wrong(t, s+"  ", len(s)+2, api.ErrForm)
			wrong(t, s+","+ends.shut, len(s), api.ErrForm)
			wrong(t, s+" .. 1"+ends.shut, len(s)+1, api.ErrForm)
			s += ends.shut
			for _, more := range []string{"1", "x", "+ 1", "and x", "< 1", "in [1..2]", "..", "[1]", "(1)", ")", "]", "-"} {
				wrong(t, s+" "+more, len(s)+1, api.ErrForm)
			}
			wrong(t, s+",", len(s)+1, api.ErrForm)
		}
		wrong(t, ends.open+"1000000001..2"+ends.shut, 1, api.ErrOver)
		wrong(t, ends.open+"1..1000000001"+ends.shut, 4, api.ErrOver)
		wrong(t, ends.open+"1..1000000001", 4, api.ErrOver)
		wrong(t, ends.open+"1..2 + 1.123456789"+ends.shut, 8, api.ErrOver)
		wrong(t, ends.open+"..2"+ends.shut, 1, api.ErrForm)
		wrong(t, ends.open, 1, api.ErrForm)
		wrong(t, ends.open+"1", 2, api.ErrForm)
		wrong(t, ends.open+"< 1..2"+ends.shut, 1, api.ErrForm)
		wrong(t, ends.open+"1..< 2"+ends.shut, 4, api.ErrForm)
	}
}

// Two that begin likewise: lists, and expressions in brackets, alone and with more behind them.
func TestParseOfWhatIsNoRange(t *testing.T) {
	right(t, "[]", "= []")
	right(t, "[1]", "= [1]")
	right(t, "[1, 2]", "= [1, 2]")
	right(t, "[[1], []]", "= [[1], []]")
	right(t, "[1 + 2, x]", "= [(1 + 2), x]")
	right(t, "[1] = x", "= ([1] = x)")
	right(t, "[1] + [2]", "= ([1] + [2])")
	right(t, "[x in [1..2]]", "= [(x in [1..2])]")
	right(t, "[1], [2]", "= [1]; = [2]")
	right(t, "(1)", "= 1")
	right(t, "((1))", "= 1")
	right(t, "(1 + 2) * 3", "= ((1 + 2) * 3)")
	right(t, "(a) and (b)", "= (a and b)")
	right(t, "(1) in (0..2)", "= (1 in (0..2))")
	right(t, "(x in (1..2))", "= (x in (1..2))")
	right(t, "(x in (1..2)) or (y)", "= ((x in (1..2)) or y)")
	right(t, "(if a then b else c)", "= (if a then b else c)")
	right(t, "(1), (2)", "= 1; = 2")
	right(t, "not((1), [2])", "none{= 1; = [2]}")
	right(t, "x in [1..2]", "= (x in [1..2])")
	right(t, "((1)..2]", "behind 1 to 2")
	right(t, "([1]..2]", "behind [1] to 2")
	right(t, "[(1)..(2))", "from 1 ahead of 2")
	right(t, "[x in [1..2]..3]", "from (x in [1..2]) to 3")
	wrong(t, "[1,]", 3, api.ErrForm)
	wrong(t, "[1, 2", 5, api.ErrForm)
	wrong(t, "[1, 2..3]", 5, api.ErrForm)
	wrong(t, "[1 2]", 3, api.ErrForm)
	wrong(t, "[1)", 2, api.ErrForm)
	wrong(t, "[1)..2]", 2, api.ErrForm)
	wrong(t, "[)", 1, api.ErrForm)
	wrong(t, "[1]]", 3, api.ErrForm)
	wrong(t, "[1]..2", 3, api.ErrForm)
	wrong(t, "[[1..2]..3]", 3, api.ErrForm)
	wrong(t, "[[1..2]]", 3, api.ErrForm)
	wrong(t, "[[1..2], 3]", 3, api.ErrForm)
	wrong(t, "[1 + ..2]", 5, api.ErrForm)
	wrong(t, "()", 1, api.ErrForm)
	wrong(t, "(1", 2, api.ErrForm)
	wrong(t, "(1]", 2, api.ErrForm)
	wrong(t, "(1, 2)", 2, api.ErrForm)
	wrong(t, "(1 2)", 3, api.ErrForm)
	wrong(t, "(1)..2", 3, api.ErrForm)
	wrong(t, "(1)..2]", 3, api.ErrForm)
	wrong(t, "((1..2)", 3, api.ErrForm)
	wrong(t, "((1..2]..3)", 3, api.ErrForm)
	wrong(t, "(1 .. 2) ..", 9, api.ErrForm)
	wrong(t, "1..2", 1, api.ErrForm)
	wrong(t, "..", 0, api.ErrForm)
	wrong(t, `"["1..2]`, 3, api.ErrForm)
	wrong(t, "f(1..2)", 3, api.ErrForm)
	wrong(t, "f[1..2]", 1, api.ErrForm)
}

func TestParseOfAnExpressionAlone(t *testing.T) {
	for _, p := range []struct{ s, want string }{
		{"5", "5"}, {"2.50", "2.5"}, {`"a b"`, `"a b"`}, {`""`, `""`}, {"x", "x"}, {"true", "true"}, {"false", "false"}, {"null", "null"},
		{"1 + 2 * x", "(1 + (2 * x))"}, {"a or b and c", "(a or (b and c))"}, {"x < 5", "(x < 5)"}, {"x = 5", "(x = 5)"}, {"f()", "f()"}, {"f(1, g(x))", "f(1, g(x))"},
		{"if a then b else c", "(if a then b else c)"}, {"x in (1..2]", "(x in (1..2])"}, {"a = b and c != d", "((a = b) and (c != d))"},
	} {
		right(t, p.s, "= "+p.want)
		right(t, "= "+p.s, "= "+p.want)
		right(t, "  "+p.s+"  ", "= "+p.want)
		right(t, p.s+", "+p.s, "= "+p.want+"; = "+p.want)
		right(t, "not("+p.s+")", "none{= "+p.want+"}")
		wrong(t, p.s+" then", len(p.s)+1, api.ErrForm)
		wrong(t, p.s+" 1", len(p.s)+1, api.ErrForm)
		wrong(t, p.s+" ..", len(p.s)+1, api.ErrForm)
		wrong(t, p.s+" )", len(p.s)+1, api.ErrForm)
	}
	wrong(t, "x < 5 < 6", 6, api.ErrForm)
	wrong(t, "x 5", 2, api.ErrForm)
	wrong(t, "5 +", 3, api.ErrForm)
	wrong(t, "+ 5", 0, api.ErrForm)
	wrong(t, "then", 0, api.ErrForm)
	wrong(t, "in [1..2]", 0, api.ErrForm)
	wrong(t, "true(1)", 4, api.ErrForm)
}

func TestParseOfNothing(t *testing.T) {
	wrong(t, "", 0, api.ErrForm)
	wrong(t, " ", 1, api.ErrForm)
	wrong(t, strings.Repeat(" ", api.MaxSource), api.MaxSource, api.ErrForm)
	wrong(t, ",", 0, api.ErrForm)
	wrong(t, ",1", 0, api.ErrForm)
	wrong(t, "1,", 2, api.ErrForm)
	wrong(t, "1, ", 3, api.ErrForm)
	wrong(t, "1,,2", 2, api.ErrForm)
	wrong(t, "1, )", 3, api.ErrForm)
}

func TestParseOfRows(t *testing.T) {
	for n := 1; n <= api.MaxTests; n++ {
		s := row(n)
		right(t, s, toldRow(n))
		right(t, "not("+s+")", "none{"+toldRow(n)+"}")
		e := api.ErrForm
		if n == api.MaxTests {
			e = api.ErrLong
		}
		for _, blanks := range []string{"", " ", "   "} {
			wrong(t, s+blanks+","+blanks, len(s)+1+2*len(blanks), e)
			wrong(t, "not("+s+blanks+","+blanks, len(s)+5+2*len(blanks), e)
			wrong(t, "not("+s+blanks+","+blanks+")", len(s)+5+2*len(blanks), e)
		}
		wrong(t, s+" 9", len(s)+1, api.ErrForm)
		wrong(t, s+" )", len(s)+1, api.ErrForm)
		wrong(t, "not("+s+" 9)", len(s)+5, api.ErrForm)
		wrong(t, "not("+s, len(s)+4, api.ErrForm)
	}
}

// Whatever stands behind the comma is one too many.
func TestParseOfOneTooMany(t *testing.T) {
	s := row(api.MaxTests) + ","
	for _, more := range []string{"7", "x", "-", "< 7", "[7..8]", "[7", "(7..8)", "not(7)", "7, 8, 9", ",", ")", "]", "..", "<", "then", "+", "1000000001", "(((((((((((7", `"t"`, "7)"} {
		wrong(t, s+more, len(s), api.ErrLong)
		wrong(t, s+"  "+more, len(s)+2, api.ErrLong)
		wrong(t, "not("+s+more, len(s)+4, api.ErrLong)
		wrong(t, "not("+s+"  "+more+")", len(s)+6, api.ErrLong)
	}
	// what is wrong with the text's tokens goes ahead
	wrong(t, s+" 7 !", len(s)+3, api.ErrForm)
	wrong(t, s+" abcdefghi", len(s)+1, api.ErrLong)
	wrong(t, s+" 7, abcdefghi", len(s)+4, api.ErrLong)
	// rows within others have no room of the cell's
	right(t, "[1, 2, 3, 4, 5, 6, 7]", "= [1, 2, 3, 4, 5, 6, 7]")
	right(t, "f(1, 2, 3, 4, 5, 6, 7), 8", "= f(1, 2, 3, 4, 5, 6, 7); = 8")
	right(t, "1, not(1, 2, 3, 4, 5, 6, 7)", "= 1; = not(1, 2, 3, 4, 5, 6, 7)")
	right(t, "not(f(1, 2, 3, 4, 5, 6, 7))", "none{= f(1, 2, 3, 4, 5, 6, 7)}")
	right(t, "< 1, [2..3], -4, x, (5), [6]", "< 1; from 2 to 3; = (-4); = x; = 5; = [6]")
	wrong(t, "< 1, [2..3], -4, x, (5), [6],", 29, api.ErrLong)
	wrong(t, "[1..2], [1..2], [1..2], [1..2], [1..2], [1..2], [1..2]", 48, api.ErrLong)
	wrong(t, "< 1, < 2, < 3, < 4, < 5, < 6, < 7", 30, api.ErrLong)
}

func TestParseOfWrongTokens(t *testing.T) {
	for _, bad := range []string{"!", "A", ".", "\"", "\"y", "\xff", "\x00", "\t", "\n", "{}", "'a'"} {
		for _, ahead := range []string{"", "1 ", "< ", "[1..", "not(", "not(1)", "1 2 ", "- - - ", "((((((((((", "1000000001 ", ", ) ", row(api.MaxTests) + ", ", "x, "} {
			wrong(t, ahead+bad, len(ahead), api.ErrForm)
		}
	}
	wrong(t, "abcdefghi", 0, api.ErrLong)
	wrong(t, ") abcdefghi", 2, api.ErrLong)
	right(t, "abcdefgh", "= abcdefgh")
	wrong(t, `< "seventeen bytes x"`, 2, api.ErrLong)
	right(t, `< "sixteen bytes xx"`, `< "sixteen bytes xx"`)
	wrong(t, strings.Repeat("x", api.MaxSource+1), 0, api.ErrLong)
	wrong(t, "1, 2"+strings.Repeat(" ", api.MaxSource-3), 0, api.ErrLong)
	right(t, "1, 2"+strings.Repeat(" ", api.MaxSource-4), "= 1; = 2")
	right(t, strings.Repeat(" ", api.MaxSource-1)+"-", "any")
	ones := strings.Repeat(",1", 27)
	right(t, "[1"+ones+"],<2", "= [1"+strings.ReplaceAll(ones, ",", ", ")+"]; < 2")
	wrong(t, "[1"+ones+"],<-2", 60, api.ErrLong)
	wrong(t, "[1"+ones+"],<2,", 60, api.ErrLong)
}

func TestParseOfNumbersThatCanNotBe(t *testing.T) {
	right(t, "1000000000", "= 1000000000")
	right(t, "[1000000000..1000000000.4]", "from 1000000000 to 1000000000")
	for _, n := range []string{"1000000001", "1.123456789", "1000000000000000000"} {
		wrong(t, n, 0, api.ErrOver)
		wrong(t, n+" )", 0, api.ErrOver)
		wrong(t, "-"+n, 1, api.ErrOver)
		wrong(t, "< "+n, 2, api.ErrOver)
		wrong(t, "1, "+n+", )", 3, api.ErrOver)
		wrong(t, "not("+n, 4, api.ErrOver)
		wrong(t, "not(1, ["+n+"..2])", 8, api.ErrOver)
		wrong(t, "not(1, [2.."+n+"])", 11, api.ErrOver)
		wrong(t, "["+n+"]", 1, api.ErrOver)
		wrong(t, "("+n+")", 1, api.ErrOver)
		wrong(t, "[1, "+n+"]", 4, api.ErrOver)
		wrong(t, ") "+n, 0, api.ErrForm)
		wrong(t, "1 "+n, 2, api.ErrForm)
	}
}

// A test's expressions begin at depth 0, each of them, those of a range too.
func TestParseOfDeep(t *testing.T) {
	open := func(n int) string { return strings.Repeat("(", n) }
	shut := func(n int) string { return strings.Repeat(")", n) }
	deep := open(8) + "1" + shut(8)
	right(t, deep, "= 1")
	right(t, "< "+deep, "< 1")
	right(t, "not("+deep+")", "none{= 1}")
	right(t, "not(< "+deep+", "+deep+")", "none{< 1; = 1}")
	right(t, "["+deep+".."+deep+"]", "from 1 to 1")
	right(t, "("+deep+".."+deep+")", "behind 1 ahead of 1")
	right(t, "not(["+deep+".."+deep+"], "+deep+")", "none{from 1 to 1; = 1}")
	right(t, "[--------1..--------2]", "from "+strings.Repeat("(-", 8)+"1"+shut(8)+" to "+strings.Repeat("(-", 8)+"2"+shut(8))
	wrong(t, open(9)+"1"+shut(9), 9, api.ErrDeep)
	wrong(t, open(9), 9, api.ErrDeep)
	wrong(t, "< "+open(9)+"1", 11, api.ErrDeep)
	wrong(t, "1, "+open(9)+"1", 12, api.ErrDeep)
	wrong(t, "not("+open(9)+"1", 13, api.ErrDeep)
	wrong(t, "not(1, < "+open(9)+")", 18, api.ErrDeep)
	wrong(t, "---------1", 9, api.ErrDeep)
	// the first end of a range, and a list's first: what stands behind it says which
	wrong(t, "["+deep+"]", 9, api.ErrDeep)
	wrong(t, "["+deep+", 1]", 9, api.ErrDeep)
	wrong(t, "("+deep+")", 9, api.ErrDeep)
	wrong(t, "["+deep, 9, api.ErrDeep)
	wrong(t, "["+deep+" 1..2]", 9, api.ErrDeep)
	wrong(t, "["+open(8)+"1"+shut(7)+"..2]", 9, api.ErrDeep)
	wrong(t, "["+open(9)+"1"+shut(9)+"..2]", 9, api.ErrDeep)
	wrong(t, open(9)+"1..2)", 9, api.ErrDeep)
	wrong(t, open(9)+"1"+shut(8)+"]", 9, api.ErrDeep)
	right(t, open(9)+"1"+shut(8)+"..2]", "behind 1 to 2")
	wrong(t, open(9)+"1"+shut(8)+"..2", 21, api.ErrForm)
	wrong(t, open(9)+"1"+shut(8)+"..", 20, api.ErrForm)
	// the second end has no other way
	wrong(t, "[1.."+open(9)+"1", 13, api.ErrDeep)
	wrong(t, "[1.."+open(9), 13, api.ErrDeep)
	right(t, "[1.."+deep+")", "from 1 ahead of 1")
}

func TestParseOfTheExample(t *testing.T) {
	right(t, "[1..5), > 9", "from 1 ahead of 5; > 9")
}
