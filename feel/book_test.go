package feel_test

import (
	"slices"
	"strings"
	"testing"

	"dossier/api"
	"dossier/dec"
	"dossier/feel"
	"dossier/lex"
)

// Another way than the package's: the rules as data, gone through with a stack
// of what has yet to come. Capitals are rules, all else is a token; + is one
// deeper. Of the ways of a rule the first is taken whose first token stands
// there: so a way with nothing in it stands last, but where a closing bracket
// is to be taken first.
func rules() map[string][]string {
	return map[string][]string{
		"EXPR":  {"AND ORS"},
		"ORS":   {"or AND ORS", ""},
		"AND":   {"CMP ANDS"},
		"ANDS":  {"and CMP ANDS", ""},
		"CMP":   {"ADD REL"},
		"REL":   {"< ADD", "<= ADD", "> ADD", ">= ADD", "= ADD", "!= ADD", "in OPEN EXPR+ .. EXPR+ SHUT", ""},
		"OPEN":  {"[", "("},
		"SHUT":  {"]", ")"},
		"ADD":   {"MUL ADDS"},
		"ADDS":  {"+ MUL ADDS", "- MUL ADDS", ""},
		"MUL":   {"UNARY MULS"},
		"MULS":  {"* UNARY MULS", "/ UNARY MULS", ""},
		"UNARY": {"- UNARY+", "ATOM"},
		"ATOM":  {"num", "text", "true", "false", "null", "name CALL", "( EXPR+ )", "[ ROW ]", "if EXPR+ then EXPR+ else EXPR+"},
		"CALL":  {"( ROW )", ""},
		"ROW":   {"", "EXPR+ MORE"},
		"MORE":  {", EXPR+ MORE", ""},
	}
}

// due is a rule or a token that has yet to come, at a depth.
type due struct {
	what string
	deep int
}

// book is the ways of each rule; their depths are counted from the rule's on.
type book map[string][][]due

func newBook() book {
	b := book{}
	for name, ways := range rules() {
		for _, way := range ways {
			var l []due
			for _, what := range strings.Fields(way) {
				if rule, deeper := strings.CutSuffix(what, "+"); deeper && rule != "" {
					l = append(l, due{rule, 1})
				} else {
					l = append(l, due{what, 0})
				}
			}
			b[name] = append(b[name], l)
		}
	}
	return b
}

func isWord(s string) bool {
	return slices.Contains([]string{"true", "false", "null", "if", "then", "else", "and", "or", "in"}, s)
}

// fits tells whether a token is the one that is due.
func fits(k api.Tok, what string) bool {
	switch {
	case what == "rest":
		return true
	case what == "num":
		return k.Kind == api.TokNum
	case what == "text":
		return k.Kind == api.TokText
	case what == "name":
		return k.Kind == api.TokName && !isWord(k.Text)
	case isWord(what):
		return k.Kind == api.TokName && k.Text == what
	}
	return k.Kind == api.TokSign && k.Text == what
}

// stack is what is due: the next, and all behind it.
type stack struct {
	due
	under *stack
}

// step is what is due behind a token, or its error, if it can not stand.
func (b book) step(s *stack, k api.Tok) (*stack, api.Errno) {
	if (s.what == "EXPR" || s.what == "UNARY") && s.deep > 8 {
		return nil, api.ErrDeep
	}
	ways, is := b[s.what]
	switch {
	case is:
		return b.first(s, ways, k)
	case !fits(k, s.what):
		return nil, api.ErrForm
	case s.what == "num":
		_, e := dec.Parse(k.Text)
		return s.under, e
	}
	return s.under, api.OK
}

// first is the step of the first way of a rule by which the token can stand.
func (b book) first(s *stack, ways [][]due, k api.Tok) (*stack, api.Errno) {
	for _, way := range ways {
		next := s.under
		for i := len(way) - 1; i >= 0; i-- {
			next = &stack{due{way[i].what, s.deep + way[i].deep}, next}
		}
		if next, e := b.step(next, k); e != api.ErrForm {
			return next, e
		}
	}
	return nil, api.ErrForm
}

// taken is what Take ought to answer, but for the expression.
func (b book) taken(l []api.Tok, at, end int) (next, pos int, e api.Errno) {
	s := &stack{due{"EXPR", 0}, &stack{due{"rest", 0}, nil}}
	for i := at; ; i++ {
		k := api.Tok{Pos: end}
		if i < len(l) {
			k = l[i]
		}
		s, e = b.step(s, k)
		switch {
		case e != api.OK:
			return at, k.Pos, e
		case s == nil:
			return i, 0, api.OK
		}
	}
}

// parsed is what Parse ought to answer, but for the expression.
func (b book) parsed(s string) (n int, e api.Errno) {
	l, n, e := lex.Lex(s)
	if e != api.OK {
		return n, e
	}
	next, pos, e := b.taken(l, 0, n)
	switch {
	case e != api.OK:
		return pos, e
	case next < len(l):
		return l[next].Pos, api.ErrForm
	}
	return n, api.OK
}

// check holds Parse against the book.
func (b book) check(t *testing.T, s string) (n int, e api.Errno) {
	t.Helper()
	n, e = b.parsed(s)
	x, gotN, gotE := feel.Parse(s)
	if gotN != n || gotE != e || (e == api.OK) == nothing(x) {
		t.Fatalf("Parse(%q): %s, %d, %v; not %d, %v", s, told(x), gotN, gotE, n, e)
	}
	return n, e
}

// checkTakes holds Take from each place of a text's tokens on against the book.
func (b book) checkTakes(t *testing.T, s string) {
	t.Helper()
	l, end, _ := lex.Lex(s)
	for at := range len(l) + 1 {
		next, pos, e := b.taken(l, at, end)
		x, gotNext, gotPos, gotE := feel.Take(l, at, end)
		if gotNext != next || gotPos != pos || gotE != e || (e == api.OK) == nothing(x) {
			t.Fatalf("Take(%q, %d): %s, %d, %d, %v; not %d, %d, %v", s, at, told(x), gotNext, gotPos, gotE, next, pos, e)
		}
	}
}

// rows checks all rows of up to n of some tokens behind a text. One that is
// wrong ahead of its end stays so, whatever follows, and is left there.
func (b book) rows(t *testing.T, ahead string, n int, of []string) int {
	t.Helper()
	checked := 0
	for _, k := range of {
		s := ahead + " " + k
		at, e := b.check(t, s)
		checked++
		if n > 1 && at == len(s) && (e == api.OK || e == api.ErrForm) {
			checked += b.rows(t, s, n-1, of)
		}
	}
	return checked
}

func allTokens() []string {
	return append(operators(), "x", "1", `"t"`, "1000000001", "true", "null", "in", "..", "(", ")", "[", "]", ",", "if", "then", "else", "\"abcdefghijklmnopq\"")
}

func TestByTheBookOfAllShortRows(t *testing.T) {
	n := newBook().rows(t, "", 5, allTokens())
	if n < 100000 {
		t.Errorf("only %d rows", n)
	}
}

func TestByTheBookOfLongerRows(t *testing.T) {
	b := newBook()
	b.rows(t, "", 6, []string{"x", "-", "<", "(", ")", "[", "]", ","})
	b.rows(t, "", 8, []string{"x", "in", "(", "..", "]"})
	b.rows(t, "", 9, []string{"x", "if", "then", "else", "="})
	b.rows(t, "", 7, []string{"x", "or", "and", "<", "+", "*"})
}

// All short rows behind what opens just less than too much.
func TestByTheBookOfDeepRows(t *testing.T) {
	b := newBook()
	opens := []string{"( ", "- ", "[ ", "f ( ", "if ", "if a then ", "if a then b else ", "x in [ ", "x in ( b .. "}
	of := []string{"x", "1", "1000000001", "-", "<", "in", "..", "(", ")", "[", "]", ",", "if", "then", "else"}
	for _, open := range opens {
		b.rows(t, strings.Repeat(open, api.MaxDeep-1), 3, of)
		b.rows(t, strings.Repeat(open, api.MaxDeep), 3, of)
	}
	for _, p := range opens {
		for _, q := range opens {
			b.rows(t, strings.Repeat(p, api.MaxDeep-4)+strings.Repeat(q, 4), 2, of)
		}
	}
}
