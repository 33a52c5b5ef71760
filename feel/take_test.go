package feel_test

import (
	"math"
	"slices"
	"strings"
	"testing"

	"dossier/api"
	"dossier/feel"
	"dossier/lex"
)

// lexed is a text's tokens.
func lexed(t *testing.T, s string) []api.Tok {
	t.Helper()
	l, _, e := lex.Lex(s)
	if e != api.OK {
		t.Fatalf("Lex(%q): %v", s, e)
	}
	return l
}

// takes asks for the expression at a place of a text's tokens, and the place behind it.
func takes(t *testing.T, s string, at int, want string, behind int) {
	t.Helper()
	x, next, pos, e := feel.Take(lexed(t, s), at, 77)
	if told(x) != want || next != behind || pos != 0 || e != api.OK {
		t.Errorf("Take(%q, %d): %s, %d, %d, %v; not %s, %d", s, at, told(x), next, pos, e, want, behind)
	}
}

// fails asks for the place of the first error from a place of a text's tokens on; the row's end is at 77.
func fails(t *testing.T, s string, at, place int, want api.Errno) {
	t.Helper()
	x, next, pos, e := feel.Take(lexed(t, s), at, 77)
	if !nothing(x) || next != at || pos != place || e != want {
		t.Errorf("Take(%q, %d): %s, %d, %d, %v; not %d, %v", s, at, told(x), next, pos, e, place, want)
	}
}

func TestTakeFromTheBeginning(t *testing.T) {
	takes(t, "x", 0, "x", 1)
	takes(t, "1 + 2", 0, "{+ 1 2}", 3)
	takes(t, "f(x, [1])", 0, "f(x [1])", 8)
	takes(t, "if a then b else c", 0, "{if a b c}", 6)
	takes(t, "(x)", 0, "x", 3)
}

func TestTakeFromOtherPlaces(t *testing.T) {
	const s = "1 + 2 * x .. f(y), - z"
	takes(t, s, 0, "{+ 1 {* 2 x}}", 5)
	fails(t, s, 1, 2, api.ErrForm)
	takes(t, s, 2, "{* 2 x}", 5)
	fails(t, s, 3, 6, api.ErrForm)
	takes(t, s, 4, "x", 5)
	fails(t, s, 5, 10, api.ErrForm)
	takes(t, s, 6, "f(y)", 10)
	takes(t, s, 7, "y", 10)
	takes(t, s, 8, "y", 9)
	fails(t, s, 9, 16, api.ErrForm)
	fails(t, s, 10, 17, api.ErrForm)
	takes(t, s, 11, "{neg z}", 13)
	takes(t, s, 12, "z", 13)
	fails(t, s, 13, 77, api.ErrForm)
}

func TestTakeLeavesWhatStandsBehind(t *testing.T) {
	for _, behind := range []string{"..", ")", "]", ",", "then", "else", "x", "1", `"t"`, "true", "null", "if", "[", "1000000001"} {
		takes(t, "1 "+behind, 0, "1", 1)
		takes(t, "1 + 2 "+behind+" 3", 0, "{+ 1 2}", 3)
		takes(t, "(1) "+behind, 0, "1", 3)
		takes(t, "x in [1..2] "+behind, 0, "{in [] x 1 2}", 7)
		takes(t, "[] "+behind, 0, "[]", 2)
		takes(t, "f() "+behind, 0, "f()", 3)
		takes(t, "-1 "+behind, 0, "{neg 1}", 2)
	}
	takes(t, "1 (", 0, "1", 1)
	takes(t, "f() (", 0, "f()", 3)
	takes(t, "a < b < c", 0, "{< a b}", 3)
	takes(t, "a < b in [1..2]", 0, "{< a b}", 3)
	takes(t, "a in [1..2] = b", 0, "{in [] a 1 2}", 7)
	takes(t, "1 ((((((((((((", 0, "1", 1)
}

func TestTakeGoesOnWhereItCan(t *testing.T) {
	fails(t, "1 +", 0, 77, api.ErrForm)
	fails(t, "1 + )", 0, 4, api.ErrForm)
	fails(t, "1 or", 0, 77, api.ErrForm)
	fails(t, "1 or or", 0, 5, api.ErrForm)
	fails(t, "x in y", 0, 5, api.ErrForm)
	fails(t, "x (", 0, 77, api.ErrForm)
	fails(t, "x ( ]", 0, 4, api.ErrForm)
	fails(t, "1 < < 2", 0, 4, api.ErrForm)
	fails(t, "1 - * 2", 0, 4, api.ErrForm)
}

func TestTakeOfTheRowsEnd(t *testing.T) {
	for _, end := range []int{0, 1, 77, -5, math.MaxInt, math.MinInt} {
		for _, l := range [][]api.Tok{nil, {}, lexed(t, "1 + 2")} {
			if x, next, pos, e := feel.Take(l, len(l), end); !nothing(x) || next != len(l) || pos != end || e != api.ErrForm {
				t.Errorf("Take of %d tokens, from their end on: %s, %d, %d, %v", len(l), told(x), next, pos, e)
			}
		}
		for _, s := range []string{"1 +", "(", "(1", "[1,", "f(", "f(1", "-", "if", "if a", "if a then b", "x in", "x in [", "x in [1", "x in [1..", "x in [1..2"} {
			if x, next, pos, e := feel.Take(lexed(t, s), 0, end); !nothing(x) || next != 0 || pos != end || e != api.ErrForm {
				t.Errorf("Take(%q, 0, %d): %s, %d, %d, %v", s, end, told(x), next, pos, e)
			}
		}
		deep := lexed(t, "(((((((((")
		if x, next, pos, e := feel.Take(deep, 0, end); !nothing(x) || next != 0 || pos != end || e != api.ErrDeep {
			t.Errorf("Take of nine brackets: %s, %d, %d, %v", told(x), next, pos, e)
		}
	}
	l := lexed(t, "1 + 2 + 3")
	if x, next, pos, e := feel.Take(l[:4], 0, 8); !nothing(x) || next != 0 || pos != 8 || e != api.ErrForm {
		t.Errorf("what stands behind a row's end is taken: %s, %d, %d, %v", told(x), next, pos, e)
	}
	if x, next, pos, e := feel.Take(l[:3], 0, 5); told(x) != "{+ 1 2}" || next != 3 || pos != 0 || e != api.OK {
		t.Errorf("what stands behind a row's end is taken: %s, %d, %d, %v", told(x), next, pos, e)
	}
}

func TestTakeOfEachError(t *testing.T) {
	fails(t, "a, 1000000001", 2, 3, api.ErrOver)
	fails(t, "a, 1.123456789 )", 2, 3, api.ErrOver)
	fails(t, "1 * 1000000001 )", 0, 4, api.ErrOver)
	fails(t, "((((((((( 1", 0, 10, api.ErrDeep)
	takes(t, "((((((((( 1))))))))", 1, "1", 18)
	fails(t, "a -((((((((1", 1, 11, api.ErrDeep)
	fails(t, "1000000001 )", 0, 0, api.ErrOver)
	fails(t, "a 1000000001", 1, 2, api.ErrOver)
	takes(t, "a 1000000001", 0, "a", 1)
}

// The depth is counted from the place on, and no limit of a text's is asked of a row.
func TestTakeOfLongRows(t *testing.T) {
	const n = 50000
	var l []api.Tok
	for i := range n {
		l = append(l, api.Tok{Kind: api.TokNum, Text: "1", Pos: 2 * i}, api.Tok{Kind: api.TokSign, Text: "+", Pos: 2*i + 1})
	}
	x, next, pos, e := feel.Take(l[:2*n-1], 0, 0)
	if next != 2*n-1 || pos != 0 || e != api.OK {
		t.Fatalf("%d, %d, %v", next, pos, e)
	}
	sums := 0
	for ; x.Kind == api.ExprBin; x = x.Kids[0] {
		sums++
	}
	if sums != n-1 {
		t.Errorf("%d sums", sums)
	}
	if _, next, pos, e := feel.Take(l, 2, 5); next != 2 || pos != 5 || e != api.ErrForm {
		t.Errorf("%d, %d, %v", next, pos, e)
	}
	row := []api.Tok{{Kind: api.TokSign, Text: "["}, {Kind: api.TokNum, Text: "1"}}
	for range n {
		row = append(row, api.Tok{Kind: api.TokSign, Text: ","}, api.Tok{Kind: api.TokNum, Text: "2"})
	}
	row = append(row, api.Tok{Kind: api.TokSign, Text: "]"})
	if x, next, pos, e := feel.Take(row, 0, 0); len(x.Kids) != n+1 || next != len(row) || pos != 0 || e != api.OK {
		t.Errorf("%d, %d, %d, %v", len(x.Kids), next, pos, e)
	}
	text := strings.Repeat("t", 1000)
	if x, next, _, e := feel.Take([]api.Tok{{Kind: api.TokText, Text: text}}, 0, 0); x.T != text || next != 1 || e != api.OK {
		t.Errorf("a long text: %d, %v", next, e)
	}
}

// Places are the tokens' own, whatever they are.
func TestTakeOfOtherPlaces(t *testing.T) {
	l := []api.Tok{{Kind: api.TokNum, Text: "1", Pos: -3}, {Kind: api.TokSign, Text: "+", Pos: 900}, {Kind: api.TokSign, Text: ")", Pos: math.MinInt}}
	if _, next, pos, e := feel.Take(l, 0, 5); next != 0 || pos != math.MinInt || e != api.ErrForm {
		t.Errorf("%d, %d, %v", next, pos, e)
	}
	if _, next, pos, e := feel.Take(l, 1, 5); next != 1 || pos != 900 || e != api.ErrForm {
		t.Errorf("%d, %d, %v", next, pos, e)
	}
}

// W1: a row of what are no tokens, and places that are none.
func TestTakeOfWhatIsNone(t *testing.T) {
	for _, kind := range []int{0, 5, -1, math.MaxInt, math.MinInt} {
		for _, text := range []string{"", "x", "1", "(", "true", "-"} {
			bad := api.Tok{Kind: kind, Text: text, Pos: 4}
			if x, next, pos, e := feel.Take([]api.Tok{bad}, 0, 9); !nothing(x) || next != 0 || pos != 4 || e != api.ErrForm {
				t.Errorf("%v: %s, %d, %d, %v", bad, told(x), next, pos, e)
			}
			if x, next, pos, e := feel.Take([]api.Tok{{Kind: api.TokName, Text: "a"}, bad}, 0, 9); told(x) != "a" || next != 1 || pos != 0 || e != api.OK {
				t.Errorf("a, %v: %s, %d, %d, %v", bad, told(x), next, pos, e)
			}
		}
	}
	for _, text := range []string{"", "x", "1.", "--1", "\xff"} {
		if x, next, pos, e := feel.Take([]api.Tok{{Kind: api.TokNum, Text: text, Pos: 4}}, 0, 9); !nothing(x) || next != 0 || pos != 4 || e != api.ErrForm {
			t.Errorf("the number %q: %s, %d, %d, %v", text, told(x), next, pos, e)
		}
	}
	for _, text := range []string{"", "?", "!", "\x00", "x", "1", "true", "or", "if"} {
		if x, next, pos, e := feel.Take([]api.Tok{{Kind: api.TokSign, Text: text, Pos: 4}}, 0, 9); !nothing(x) || next != 0 || pos != 4 || e != api.ErrForm {
			t.Errorf("the sign %q: %s, %d, %d, %v", text, told(x), next, pos, e)
		}
	}
	l := lexed(t, "1 + 2")
	for _, at := range []int{-1, math.MinInt, len(l) + 1, math.MaxInt} {
		if x, next, pos, e := feel.Take(l, at, 5); !nothing(x) || next != at || pos != 5 || e != api.ErrForm {
			t.Errorf("Take from %d on: %s, %d, %d, %v", at, told(x), next, pos, e)
		}
	}
}

func TestTakeOfALongerRowWithSpareRoom(t *testing.T) {
	whole := lexed(t, `f(a, [1, "t"], if b then -c else d in (1..2]) + 1`)
	for n := range len(whole) + 1 {
		for at := range n + 1 {
			l, kept := slices.Clone(whole), slices.Clone(whole)
			feel.Take(l[:n], at, 99)
			if !slices.Equal(l, kept) {
				t.Fatalf("%d, %d: the row is changed: %v", n, at, l)
			}
		}
	}
}

// spoil changes all that an expression reaches, spare room too.
func spoil(x api.Expr) {
	for i := range x.Kids[:cap(x.Kids)] {
		k := &x.Kids[:cap(x.Kids)][i]
		spoil(*k)
		*k = api.Expr{Kind: -1, T: "spoilt"}
	}
}

func TestTakeAnswersNewMemory(t *testing.T) {
	const s = `f(a, [1, "t", 3, 4, 5], if b then -c else d in (1..2]) + g()`
	l := lexed(t, s)
	first, _, _, _ := feel.Take(l, 0, len(s))
	second, _, _, _ := feel.Take(l, 0, len(s))
	third := parsed(t, s)
	want := told(first)
	spoil(first)
	if told(second) != want || told(third) != want || told(parsed(t, s)) != want {
		t.Error("a change of one answer is one of another")
	}
	for i := range l {
		l[i] = api.Tok{Kind: api.TokName, Text: "spoilt"}
	}
	if told(second) != want {
		t.Error("a change of the tokens is one of the answer")
	}
}

// rooms counts how often each place of memory stands in the lists of an expression, spare room too.
func rooms(x api.Expr, in map[*api.Expr]int) {
	kids := x.Kids[:cap(x.Kids)]
	for i := range kids {
		in[&kids[i]]++
	}
	for _, k := range x.Kids {
		rooms(k, in)
	}
}

func TestNoTwoListsOfAnAnswerShareMemory(t *testing.T) {
	for _, s := range []string{
		"a + b + c + d * e * f",
		"[[1, 2, 3], [4, 5, 6, 7, 8], [], f(), f(1, 2, 3), f(1, 2, 3)]",
		"if if a then b else c then if d then e else f else if g then h else i",
		"- - a in [b in [1..2]..c in (3..4)]",
	} {
		in := map[*api.Expr]int{}
		rooms(parsed(t, s), in)
		for _, n := range in {
			if n != 1 {
				t.Errorf("%q: two lists have one place", s)
			}
		}
	}
}
