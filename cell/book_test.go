package cell_test

import (
	"slices"
	"strconv"
	"strings"
	"testing"

	"dossier/api"
	"dossier/cell"
	"dossier/dec"
	"dossier/lex"
)

// Another way than the package's: the rules as data, those of chapter 4 too,
// gone through with a stack of what has yet to come. Capitals are rules, all
// else is a token; + is one deeper. A way with ! in it is taken if what is
// ahead of that stands there, and is not looked at else; of the others the
// first is taken whose first token stands there.
func rules() map[string][]string {
	m := map[string][]string{
		"CELL":  {"- end !", "not ( ! ROW1 ) end", "ROW1 end"},
		"TEST":  {"< EXPR", "<= EXPR", "> EXPR", ">= EXPR", "= EXPR", "!= EXPR", "OPEN EXPR .. ! EXPR SHUT", "EXPR"},
		"EXPR":  {"AND ORS"},
		"ORS":   {"or AND ORS", ""},
		"AND":   {"CMP ANDS"},
		"ANDS":  {"and CMP ANDS", ""},
		"CMP":   {"ADD REL"},
		"REL":   {"< ADD", "<= ADD", "> ADD", ">= ADD", "= ADD", "!= ADD", "in OPEN EXPR+ .. EXPR+ SHUT", ""},
		"OPEN":  {"[", "("},
		"SHUT":  {"]", ")"},
		"ADD":   {"MUL ADDS"},
		"ADDS":  {"+ MUL ADDS", "- MUL ADDS", ""},
		"MUL":   {"UNARY MULS"},
		"MULS":  {"* UNARY MULS", "/ UNARY MULS", ""},
		"UNARY": {"- UNARY+", "ATOM"},
		"ATOM":  {"num", "text", "true", "false", "null", "name CALL", "( EXPR+ )", "[ KIDS ]", "if EXPR+ then EXPR+ else EXPR+"},
		"CALL":  {"( KIDS )", ""},
		"KIDS":  {"", "EXPR+ MORE"},
		"MORE":  {", EXPR+ MORE", ""},
	}
	for n := 1; n <= 6; n++ {
		m["ROW"+strconv.Itoa(n)] = []string{"TEST REST" + strconv.Itoa(n)}
		m["REST"+strconv.Itoa(n)] = []string{", ROW" + strconv.Itoa(n+1), ""}
	}
	return m
}

// due is a rule or a token that has yet to come, at a depth.
type due struct {
	what string
	deep int
}

// way is what a rule is made of; guard is what has to stand there ahead of its !.
type way struct{ guard, all []due }

// book is the ways of each rule; their depths are counted from the rule's on.
type book map[string][]way

func newBook() book {
	b := book{}
	for name, texts := range rules() {
		for _, text := range texts {
			var w way
			for _, what := range strings.Fields(text) {
				rule, deeper := strings.CutSuffix(what, "+")
				switch {
				case what == "!":
					w.guard = w.all[:len(w.all):len(w.all)]
				case deeper && rule != "":
					w.all = append(w.all, due{rule, 1})
				default:
					w.all = append(w.all, due{what, 0})
				}
			}
			b[name] = append(b[name], w)
		}
	}
	return b
}

func isWord(s string) bool {
	return slices.Contains([]string{"true", "false", "null", "if", "then", "else", "and", "or", "in"}, s)
}

// fits tells whether a token is the one that is due; the end is one of no Kind.
func fits(k api.Tok, what string) bool {
	switch {
	case what == "end":
		return k.Kind == 0
	case what == "num":
		return k.Kind == api.TokNum
	case what == "text":
		return k.Kind == api.TokText
	case what == "name":
		return k.Kind == api.TokName && !isWord(k.Text)
	case what == "not" || isWord(what):
		return k.Kind == api.TokName && k.Text == what
	}
	return k.Kind == api.TokSign && k.Text == what
}

// stack is what is due: the next, and all behind it.
type stack struct {
	due
	under *stack
}

// put is what is due if a row is, ahead of all else.
func put(l []due, deep int, s *stack) *stack {
	for _, d := range slices.Backward(l) {
		s = &stack{due{d.what, deep + d.deep}, s}
	}
	return s
}

// step is what is due behind the first token of l, or its error, if it can not stand.
func (b book) step(s *stack, l []api.Tok) (*stack, api.Errno) {
	switch {
	case (s.what == "EXPR" || s.what == "UNARY") && s.deep > 8:
		return nil, api.ErrDeep
	case s.what == "ROW7":
		return nil, api.ErrLong
	}
	ways, is := b[s.what]
	switch {
	case is:
		return b.first(s, ways, l)
	case !fits(l[0], s.what):
		return nil, api.ErrForm
	case s.what == "num":
		_, e := dec.Parse(l[0].Text)
		return s.under, e
	}
	return s.under, api.OK
}

// first is the step of the way of a rule that is to be taken.
func (b book) first(s *stack, ways []way, l []api.Tok) (*stack, api.Errno) {
	for _, w := range ways {
		next := put(w.all, s.deep, s.under)
		if w.guard != nil {
			if _, e := b.run(put(w.guard, s.deep, nil), l); e == api.OK {
				return b.step(next, l)
			}
			continue
		}
		if next, e := b.step(next, l); e != api.ErrForm {
			return next, e
		}
	}
	return nil, api.ErrForm
}

// run goes through tokens till nothing is due, or to the first error: how many
// it went past. The last one of them is the end.
func (b book) run(s *stack, l []api.Tok) (n int, e api.Errno) {
	for ; s != nil && e == api.OK; n++ {
		s, e = b.step(s, l[n:])
		if e != api.OK {
			return n, e
		}
		if n == len(l)-1 {
			return n, api.OK
		}
	}
	return n, e
}

// parsed is what Parse ought to answer, but for the tests.
func (b book) parsed(s string) (n int, e api.Errno) {
	l, n, e := lex.Lex(s)
	if e != api.OK {
		return n, e
	}
	at, e := b.run(put([]due{{"CELL", 0}}, 0, nil), append(l, api.Tok{Pos: n}))
	if e == api.OK || at == len(l) {
		return n, e
	}
	return l[at].Pos, e
}

// check holds Parse against the book.
func (b book) check(t *testing.T, s string) (n int, e api.Errno) {
	t.Helper()
	n, e = b.parsed(s)
	l, gotN, gotE := cell.Parse(s)
	if gotN != n || gotE != e || (e == api.OK) == (len(l) == 0) {
		t.Fatalf("Parse(%.300q): %s, %d, %v; not %d, %v", s, told(l), gotN, gotE, n, e)
	}
	return n, e
}

// rows checks all rows of up to n of some tokens behind a text. One that has
// what can not stand ahead of its end stays wrong, whatever follows, and is
// left there; but one that is too deep may yet turn out to be a range.
func (b book) rows(t *testing.T, ahead string, n int, of []string) int {
	t.Helper()
	checked := 0
	for _, k := range of {
		s := ahead + " " + k
		at, e := b.check(t, s)
		checked++
		if n > 1 && (at == len(s) || e == api.ErrDeep) {
			checked += b.rows(t, s, n-1, of)
		}
	}
	return checked
}

func allTokens() []string {
	return append(relations(), "not", "x", "1", `"t"`, "1000000001", "true", "in", "..", "(", ")", "[", "]", ",", "-", "+", "and", "then")
}

func TestByTheBookOfAllShortRows(t *testing.T) {
	if n := newBook().rows(t, "", 5, allTokens()); n < 100000 {
		t.Errorf("only %d rows", n)
	}
}

func TestByTheBookOfLongerRows(t *testing.T) {
	b := newBook()
	b.rows(t, "", 8, []string{"x", "..", "(", ")", "[", "]"})
	b.rows(t, "", 7, []string{"not", "<", "-", "(", ")", ","})
	b.rows(t, "", 9, []string{"x", "in", "(", "..", "]"})
	b.rows(t, "not (", 6, []string{"1", "..", "(", "]", ",", "<", ")"})
	b.rows(t, "x , not", 5, []string{"1", "..", "(", "]", ",", "<", ")"})
	b.rows(t, "[ 1 ..", 6, []string{"x", "-", "..", "(", "]", ",", ")"})
	b.rows(t, "< x , [", 6, []string{"x", "-", "..", "(", "]", ",", ")"})
}

// All short rows behind just as many tests as there is room for, and one less.
func TestByTheBookOfFullRows(t *testing.T) {
	b := newBook()
	of := []string{"x", "<", "[", "..", "]", "(", ")", ",", "-", "not", "1000000001"}
	for n := 4; n <= 7; n++ {
		for _, open := range []string{"", "not ("} {
			for _, one := range []string{"1", "< 1", "[ 1 .. 2 ]", "[ 1 ]", "not ( 1 )", "( 1 )"} {
				if open == "" && one == "not ( 1 )" {
					continue
				}
				b.rows(t, open+one+strings.Repeat(" , "+one, n-1), 4, of)
			}
		}
	}
}

// All short rows behind what opens just less than too much, and behind what
// closes again as much of that, or less.
func TestByTheBookOfDeepRows(t *testing.T) {
	b := newBook()
	of := []string{"x", "1000000001", "<", "..", ")", "]", ","}
	for _, first := range []string{"", "< ", "[ ", "( ", "[ 1 .. ", "not ( ", "not ( [ ", "1 , ( "} {
		for n := api.MaxDeep - 1; n <= api.MaxDeep+1; n++ {
			for _, open := range []string{"( ", "- ", "[ ", "f ( ", "if ", "x in [ "} {
				b.rows(t, first+strings.Repeat(open, n), 2, append(of, "-", "(", "["))
			}
			for _, p := range []struct{ open, shut string }{{"( ", " )"}, {"[ ", " ]"}, {"- ", ""}, {"f ( ", " )"}} {
				for m := n - 2; m <= n; m++ {
					b.rows(t, first+strings.Repeat(p.open, n)+"x"+strings.Repeat(p.shut, m), 3, of)
				}
			}
		}
	}
}
