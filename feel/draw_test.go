package feel_test

import (
	"reflect"
	"strings"
	"testing"

	"dossier/api"
	"dossier/dec"
	"dossier/feel"
)

// draw is drawn numbers, the same ones each time.
type draw uint64

func (x *draw) next(n int) int {
	*x = *x*6364136223846793005 + 1442695040888963407
	return int(*x>>33) % n
}

func (x *draw) of(l ...string) string { return l[x.next(len(l))] }

// written writes an expression: with the brackets that it needs, and with some
// more and some blanks, if more says so.
type written struct {
	more func(n int) bool
}

// blank is what stands between two tokens that need nothing there.
func (w written) blank() string { return edge(w.more(3), "  ", "") }

// bound is how close an expression binds what it is made of.
func bound(x api.Expr) int {
	switch x.Kind {
	case api.ExprBin:
		return level(x.T)
	case api.ExprIn:
		return 2
	case api.ExprNeg:
		return 5
	}
	return 6
}

// text is x, where what binds as close as at may stand. free: nothing stands
// behind it that the last part of an if would take.
func (w written) text(x api.Expr, at int, free bool) string {
	if bound(x) < at || x.Kind == api.ExprIf && !free || w.more(12) {
		return "(" + w.blank() + w.part(x, true) + w.blank() + ")"
	}
	return w.part(x, free)
}

func (w written) part(x api.Expr, free bool) string {
	switch x.Kind {
	case api.ExprNull:
		return "null"
	case api.ExprBool:
		return edge(x.B, "true", "false")
	case api.ExprNum:
		return edge(w.more(4), "0", "") + dec.Text(x.D) + edge(x.D.S > 0 && w.more(4), "0", "")
	case api.ExprText:
		return "\"" + x.T + "\""
	case api.ExprName:
		return x.T
	case api.ExprNeg:
		return "-" + w.blank() + w.text(x.Kids[0], 5, free)
	case api.ExprList:
		return "[" + w.row(x.Kids) + "]"
	case api.ExprCall:
		return x.T + w.blank() + "(" + w.row(x.Kids) + ")"
	case api.ExprIf:
		return "if " + w.text(x.Kids[0], 0, true) + " then " + w.text(x.Kids[1], 0, true) + " else " + w.text(x.Kids[2], 0, true)
	case api.ExprIn:
		return w.text(x.Kids[0], 3, false) + " in" + w.blank() + edge(x.Lo, "[", "(") + w.text(x.Kids[1], 0, true) + w.blank() + ".." + w.text(x.Kids[2], 0, true) + edge(x.Hi, "]", ")")
	}
	left, right := level(x.T), level(x.T)+1
	if left == 2 {
		left = 3
	}
	return w.text(x.Kids[0], left, false) + " " + x.T + " " + w.text(x.Kids[1], right, free)
}

func (w written) row(kids []api.Expr) string {
	var l []string
	for _, k := range kids {
		l = append(l, w.blank()+w.text(k, 0, true))
	}
	return strings.Join(l, w.blank()+",") + w.blank()
}

// never is the writing that has nothing that is not needed.
func never(int) bool { return false }

func kind(k int, t string, kids ...api.Expr) api.Expr { return api.Expr{Kind: k, T: t, Kids: kids} }

func leaves() []api.Expr {
	return []api.Expr{
		{Kind: api.ExprNull}, {Kind: api.ExprBool}, {Kind: api.ExprBool, B: true},
		{Kind: api.ExprNum, D: api.Dec{M: 1}}, {Kind: api.ExprNum, D: api.Dec{M: 25, S: 1}}, {Kind: api.ExprNum},
		{Kind: api.ExprText, T: "t"}, {Kind: api.ExprText}, {Kind: api.ExprName, T: "x"}, {Kind: api.ExprName, T: "not"},
		{Kind: api.ExprList}, {Kind: api.ExprCall, T: "f"},
	}
}

// branches is each kind of an expression that has kids, made of three of them.
func branches() []func(a, b, c api.Expr) api.Expr {
	var l []func(a, b, c api.Expr) api.Expr
	add := func(f func(a, b, c api.Expr) api.Expr) { l = append(l, f) }
	for _, op := range operators() {
		add(func(a, b, _ api.Expr) api.Expr { return kind(api.ExprBin, op, a, b) })
	}
	add(func(a, _, _ api.Expr) api.Expr { return kind(api.ExprNeg, "", a) })
	add(func(a, b, c api.Expr) api.Expr { return kind(api.ExprIf, "", a, b, c) })
	add(func(a, _, _ api.Expr) api.Expr { return kind(api.ExprList, "", a) })
	add(func(a, b, c api.Expr) api.Expr { return kind(api.ExprList, "", a, b, c) })
	add(func(a, _, _ api.Expr) api.Expr { return kind(api.ExprCall, "g", a) })
	add(func(a, b, c api.Expr) api.Expr { return kind(api.ExprCall, "h", a, b, c) })
	for ends := range 4 {
		add(func(a, b, c api.Expr) api.Expr {
			x := kind(api.ExprIn, "", a, b, c)
			x.Lo, x.Hi = ends&1 != 0, ends&2 != 0
			return x
		})
	}
	return l
}

// reads asks for an expression of a text that was written of it.
func reads(t *testing.T, s string, want api.Expr) {
	t.Helper()
	x, n, e := feel.Parse(s)
	if !reflect.DeepEqual(full(x), full(want)) || n != len(s) || e != api.OK {
		t.Fatalf("Parse(%q): %s, %d, %v; not %s", s, told(x), n, e, told(want))
	}
	if !feel.Same(x, want) {
		t.Fatalf("Parse(%q): not the same as %s", s, told(want))
	}
}

// Each kind of an expression stands in each place of each other, and these again.
func TestReadOfAllSmallExpressions(t *testing.T) {
	a, b, c := kind(api.ExprName, "a"), kind(api.ExprName, "b"), kind(api.ExprName, "c")
	w := written{never}
	put := func(f func(a, b, c api.Expr) api.Expr, at int, x api.Expr) api.Expr {
		three := []api.Expr{a, b, c}
		three[at] = x
		return f(three[0], three[1], three[2])
	}
	for _, x := range leaves() {
		reads(t, w.text(x, 0, true), x)
	}
	for _, outer := range branches() {
		for i := range 3 {
			for _, x := range leaves() {
				y := put(outer, i, x)
				reads(t, w.text(y, 0, true), y)
			}
			for _, middle := range branches() {
				for j := range 3 {
					for _, inner := range branches() {
						y := put(outer, i, put(middle, j, inner(a, b, c)))
						reads(t, w.text(y, 0, true), y)
					}
				}
			}
		}
	}
}

// expr is a drawn expression of at most so many within one another.
func (x *draw) expr(deep int) api.Expr {
	if deep == 0 || x.next(4) == 0 {
		l := leaves()
		return l[x.next(len(l))]
	}
	l := branches()
	return l[x.next(len(l))](x.expr(deep-1), x.expr(deep-1), x.expr(deep-1))
}

// tower is a drawn expression of so many within one another, each with small ones beside it.
func (x *draw) tower(n int) api.Expr {
	e := x.expr(1)
	l := branches()
	for range n {
		up := l[12+x.next(len(l)-12)](x.expr(0), x.expr(0), x.expr(0))
		up.Kids[x.next(len(up.Kids))] = e
		e = up
	}
	return e
}

// any is a drawn expression, now and then a deep one.
func (x *draw) any() api.Expr {
	if x.next(4) == 0 {
		return x.tower(6 + x.next(6))
	}
	return x.expr(1 + x.next(4))
}

func TestReadOfDrawnExpressions(t *testing.T) {
	x, b := draw(1), newBook()
	seen := map[api.Errno]int{}
	for range 20000 {
		want := x.any()
		w := written{func(n int) bool { return x.next(n) == 0 }}
		s := w.text(want, 0, true)
		_, e := b.check(t, s)
		seen[e]++
		if e == api.OK {
			reads(t, s, want)
		}
	}
	if seen[api.OK] < 10000 || seen[api.ErrLong] < 500 || seen[api.ErrDeep] < 500 {
		t.Errorf("too few of a kind were drawn: %v", seen)
	}
}

// spoilt is a text of which a token or a byte was dropped, doubled or changed.
func (x *draw) spoilt(s string) string {
	at := x.next(len(s) + 1)
	to := min(len(s), at+x.next(3))
	return s[:at] + x.of("", "", " ", "x", "1", "(", ")", "[", "]", ",", "..", "-", " or ", " in ", "<", " if ", " then ", " else ", "1000000001", "\"", "!", "\x00", "\xff", "abcdefghi") + s[to:]
}

func TestByTheBookOfDrawnTexts(t *testing.T) {
	x, b := draw(2), newBook()
	seen := map[api.Errno]int{}
	for i := range 20000 {
		w := written{func(n int) bool { return x.next(n) == 0 }}
		s := x.spoilt(w.text(x.any(), 0, true))
		if i%3 == 0 {
			s = x.spoilt(s)
		}
		_, e := b.check(t, s)
		seen[e]++
		if i%10 == 0 {
			b.checkTakes(t, s)
		}
	}
	for _, e := range []api.Errno{api.OK, api.ErrForm, api.ErrLong, api.ErrOver, api.ErrDeep} {
		if seen[e] < 100 {
			t.Errorf("too few of %v were drawn: %v", e, seen)
		}
	}
}

func TestByTheBookOfDrawnTokens(t *testing.T) {
	x, b := draw(3), newBook()
	for range 10000 {
		var l []string
		for range x.next(30) {
			l = append(l, x.of(allTokens()...))
		}
		s := strings.Join(l, " ")
		b.check(t, s)
		b.checkTakes(t, s)
	}
}

func TestParseOfAnyBytes(t *testing.T) {
	x, b := draw(4), newBook()
	for i := range 20000 {
		l := make([]byte, x.next(12))
		for k := range l {
			l[k] = byte(x.next(256))
			if i%2 == 0 {
				l[k] = "ax19.\" <>=!+-*/()[],"[x.next(20)]
			}
		}
		b.check(t, string(l))
	}
	for _, s := range []string{strings.Repeat("(", 1<<20), strings.Repeat("\xff", 1<<20), strings.Repeat("x", 1<<20)} {
		wrong(t, s, 0, api.ErrLong)
	}
}

// P4.4: the same text tells the same each time.
func TestParseTellsOneThingOfEachText(t *testing.T) {
	x := draw(5)
	for range 3000 {
		w := written{func(n int) bool { return x.next(n) == 0 }}
		s := x.spoilt(w.text(x.any(), 0, true))
		a, n, e := feel.Parse(s)
		kept := full(a)
		for range 3 {
			c, m, f := feel.Parse(s)
			if !reflect.DeepEqual(full(c), kept) || m != n || f != e {
				t.Fatalf("Parse(%q): %s, %d, %v; then %s, %d, %v", s, told(a), n, e, told(c), m, f)
			}
			spoil(c)
		}
		if !reflect.DeepEqual(full(a), kept) {
			t.Fatalf("Parse(%q): changed by a later call", s)
		}
	}
}
