package cell_test

import (
	"reflect"
	"strings"
	"testing"

	"dossier/api"
	"dossier/cell"
	"dossier/feel"
)

// draw is drawn numbers, the same ones each time.
type draw uint64

func (x *draw) next(n int) int {
	*x = *x*6364136223846793005 + 1442695040888963407
	return int(*x>>33) % n
}

func (x *draw) of(l ...string) string { return l[x.next(len(l))] }

// blank is what stands between two tokens that need nothing there.
func (x *draw) blank() string { return x.of("", "", "", " ", "  ") }

// texts is expressions that stand anywhere. None of them begins with `not` and
// a bracket: that would be something else at a cell's beginning.
func texts() []string {
	return []string{
		"1", "0.5", "-1", "--x", "- (1)", `"t"`, `""`, `"<"`, "x", "not", "true", "null",
		"a + b * 2", "(a + b) * 2", "(a) - (b)", "a or b and c", "a < b", "(a = b) != c", "x in [1..2]", "x in (a or b..2)", "(x in (1..2])",
		"[]", "[1]", "[1, [2]]", "[1] = [2]", "[x in [1..2]]", "(1)", "((x))", "f()", "f(1, 2, 3)", "f((1))", "1 + not(2)",
		"if a then b else c", "(if a then b else c) + 1", "((((((((1))))))))",
	}
}

// expr is a drawn expression and its text.
func (x *draw) expr() (string, api.Expr) {
	s := x.of(texts()...)
	e, _, _ := feel.Parse(s)
	return s, e
}

// test is a drawn test and its text.
func (x *draw) test() (string, api.Test) {
	s, a := x.expr()
	switch x.next(3) {
	case 0:
		rel := x.of(relations()...)
		return rel + x.blank() + s, api.Test{Kind: api.TestCmp, Rel: rel, A: a}
	case 1:
		return s, api.Test{Kind: api.TestCmp, Rel: "=", A: a}
	}
	u, b := x.expr()
	open, shut := x.of("[", "("), x.of("]", ")")
	text := open + x.blank() + s + x.blank() + ".." + x.blank() + u + x.blank() + shut
	return text, api.Test{Kind: api.TestRange, A: a, B: b, Lo: open == "[", Hi: shut == "]"}
}

// row is up to n drawn tests and their text.
func (x *draw) row(n int) (string, []api.Test) {
	var all []string
	var l []api.Test
	for range 1 + x.next(n) {
		s, t := x.test()
		all, l = append(all, x.blank()+s+x.blank()), append(l, t)
	}
	return strings.Join(all, ","), l
}

// cell is a drawn cell of rows of up to n tests, and its text.
func (x *draw) cell(n int) (string, []api.Test) {
	s, l := x.row(n)
	switch x.next(12) {
	case 0:
		return x.blank() + "-" + x.blank(), []api.Test{{Kind: api.TestAny}}
	case 1, 2, 3, 4:
		return x.blank() + "not" + x.blank() + "(" + s + ")" + x.blank(), []api.Test{{Kind: api.TestNot, Kids: l}}
	}
	return s, l
}

// reads asks for the tests of a text that was written of them.
func reads(t *testing.T, s string, want []api.Test) {
	t.Helper()
	l, n, e := cell.Parse(s)
	if !reflect.DeepEqual(full(l), full(want)) || n != len(s) || e != api.OK {
		t.Fatalf("Parse(%.300q): %s, %d, %v; not %s", s, told(l), n, e, told(want))
	}
	if !cell.Same(l, want) || !cell.Same(want, l) {
		t.Fatalf("Parse(%.300q): not the same as %s", s, told(want))
	}
}

// Each expression stands in each place of a test, and beside each other one.
func TestReadOfAllPairs(t *testing.T) {
	for _, s := range texts() {
		a, _, e := feel.Parse(s)
		if e != api.OK {
			t.Fatalf("%q: %v", s, e)
		}
		for _, u := range texts() {
			b, _, _ := feel.Parse(u)
			one, two := api.Test{Kind: api.TestCmp, Rel: "=", A: a}, api.Test{Kind: api.TestCmp, Rel: "<=", A: b}
			reads(t, s+","+u, []api.Test{one, {Kind: api.TestCmp, Rel: "=", A: b}})
			reads(t, s+",<="+u, []api.Test{one, two})
			reads(t, "not(<="+u+","+s+")", []api.Test{{Kind: api.TestNot, Kids: []api.Test{two, one}}})
			for ends := range 4 {
				x := api.Test{Kind: api.TestRange, A: a, B: b, Lo: ends&1 != 0, Hi: ends&2 != 0}
				text := edge(x.Lo, "[", "(") + s + ".." + u + edge(x.Hi, "]", ")")
				reads(t, text, []api.Test{x})
				reads(t, text+","+s, []api.Test{x, one})
				reads(t, "not("+s+","+text+")", []api.Test{{Kind: api.TestNot, Kids: []api.Test{one, x}}})
			}
		}
	}
}

func TestReadOfDrawnCells(t *testing.T) {
	x, b := draw(1), newBook()
	seen := map[api.Errno]int{}
	for range 15000 {
		s, want := x.cell(7)
		_, e := b.check(t, s)
		seen[e]++
		if e == api.OK {
			reads(t, s, want)
		}
	}
	if seen[api.OK] < 5000 || seen[api.ErrLong] < 500 {
		t.Errorf("too few of a kind were drawn: %v", seen)
	}
}

// spoilt is a text of which a token or a byte was dropped, doubled or changed.
func (x *draw) spoilt(s string) string {
	at := x.next(len(s) + 1)
	to := min(len(s), at+x.next(3))
	return s[:at] + x.of("", "", " ", "x", "1", "(", ")", "[", "]", ",", "..", "-", "<", "not", "not(", " and ", " in ", "1000000001", "((((", "(((((((((", "[[[[[", "\"", "!", "\x00", "\xff", "abcdefghi") + s[to:]
}

func TestByTheBookOfDrawnCells(t *testing.T) {
	x, b := draw(2), newBook()
	seen := map[api.Errno]int{}
	for i := range 40000 {
		s, _ := x.cell(3 + 2*(i%3))
		s = x.spoilt(s)
		if i%3 == 0 {
			s = x.spoilt(s)
		}
		_, e := b.check(t, s)
		seen[e]++
	}
	for _, e := range []api.Errno{api.OK, api.ErrForm, api.ErrLong, api.ErrOver, api.ErrDeep} {
		if seen[e] < 300 {
			t.Errorf("too few of %v were drawn: %v", e, seen)
		}
	}
}

func TestByTheBookOfDrawnTokens(t *testing.T) {
	x, b := draw(3), newBook()
	for range 20000 {
		var l []string
		for range x.next(20) {
			l = append(l, x.of(allTokens()...))
		}
		b.check(t, strings.Join(l, " "))
	}
}

func TestByTheBookOfAnyBytes(t *testing.T) {
	x, b := draw(4), newBook()
	for i := range 40000 {
		l := make([]byte, x.next(12))
		for k := range l {
			l[k] = byte(x.next(256))
			if i%2 == 0 {
				l[k] = "ax19.\" <>=!+-*/()[],"[x.next(20)]
			}
		}
		b.check(t, string(l))
	}
	for _, c := range []string{"(", "\xff", "x", "-", "1,", "not("} {
		wrong(t, strings.Repeat(c, 1<<20), 0, api.ErrLong)
	}
}

// The same text tells the same each time, whatever becomes of an answer.
func TestParseTellsOneThingOfEachText(t *testing.T) {
	x := draw(5)
	for i := range 5000 {
		s, _ := x.cell(6)
		if i%2 == 0 {
			s = x.spoilt(s)
		}
		a, n, e := cell.Parse(s)
		kept := full(a)
		for range 3 {
			c, m, f := cell.Parse(s)
			if !reflect.DeepEqual(full(c), kept) || m != n || f != e {
				t.Fatalf("Parse(%.300q): %s, %d, %v; then %s, %d, %v", s, told(a), n, e, told(c), m, f)
			}
			spoil(c)
		}
		if !reflect.DeepEqual(full(a), kept) {
			t.Fatalf("Parse(%.300q): changed by a later call", s)
		}
	}
}

// spoil changes all that tests reach, spare room too.
func spoil(l []api.Test) {
	l = l[:cap(l)]
	for i := range l {
		spoil(l[i].Kids)
		spoilExpr(l[i].A)
		spoilExpr(l[i].B)
		l[i] = api.Test{Kind: -1, Rel: "spoilt"}
	}
}

func spoilExpr(x api.Expr) {
	kids := x.Kids[:cap(x.Kids)]
	for i := range kids {
		spoilExpr(kids[i])
		kids[i] = api.Expr{Kind: -1, T: "spoilt"}
	}
}

// rooms counts how often each place of memory stands in the lists of tests, spare room too.
type rooms struct {
	tests map[*api.Test]int
	exprs map[*api.Expr]int
}

func (r rooms) count(l []api.Test) {
	l = l[:cap(l)]
	for i := range l {
		r.tests[&l[i]]++
		r.count(l[i].Kids)
		r.countExpr(l[i].A)
		r.countExpr(l[i].B)
	}
}

func (r rooms) countExpr(x api.Expr) {
	kids := x.Kids[:cap(x.Kids)]
	for i := range kids {
		r.exprs[&kids[i]]++
		r.countExpr(kids[i])
	}
}

func TestNoTwoListsOfAnswersShareMemory(t *testing.T) {
	for _, s := range []string{
		"-", "1", "1, 2, 3, 4, 5, 6", "not(1, 2, 3, 4, 5)", "[1..2], [1..2], [1..2]", "[1]", "[1], [1], ([1])",
		"[a + b..a + b], [a + b], a + b, < a + b, (a + b)", "not([f(1)..f(1)], f(1), [f(1)], (f(1)), (f(1)..f(1)])",
	} {
		r := rooms{map[*api.Test]int{}, map[*api.Expr]int{}}
		for range 3 {
			r.count(parsed(t, s))
		}
		for _, n := range r.tests {
			if n != 1 {
				t.Errorf("%q: two lists of tests have one place", s)
			}
		}
		for _, n := range r.exprs {
			if n != 1 {
				t.Errorf("%q: two lists of expressions have one place", s)
			}
		}
	}
}
