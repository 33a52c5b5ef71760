package lex_test

import (
	"regexp"
	"slices"
	"strings"
	"testing"

	"dossier/api"
	"dossier/lex"
)

func signs() []string {
	return []string{"<=", ">=", "!=", "..", "<", ">", "=", "+", "-", "*", "/", "(", ")", "[", "]", ","}
}

// draw is drawn numbers, the same ones each time.
type draw uint64

func (x *draw) next(n int) int {
	*x = *x*6364136223846793005 + 1442695040888963407
	return int(*x>>33) % n
}

// one is what one token is, by another way than the package's; its groups are the kinds.
var one = regexp.MustCompile(`^(?:([a-z][a-z0-9]*)|([0-9]+(?:\.[0-9]+)?)|"([ !#-~]*)"|(<=|>=|!=|\.\.|[-<>=+*/()\[\],]))`)

// lexed is what Lex ought to answer, and the places where its tokens begin, the wrong one's too.
func lexed(s string) (l []api.Tok, n int, e api.Errno, at []int) {
	if len(s) > 200 {
		return nil, 0, api.ErrLong, nil
	}
	for i := 0; i < len(s); {
		if s[i] == ' ' {
			i++
			continue
		}
		at = append(at, i)
		m := one.FindStringSubmatchIndex(s[i:])
		if m == nil {
			return nil, i, api.ErrForm, at
		}
		k := api.Tok{Kind: 1, Pos: i}
		for m[2*k.Kind] < 0 {
			k.Kind++
		}
		k.Text = s[i+m[2*k.Kind] : i+m[2*k.Kind+1]]
		if k.Kind == api.TokName && len(k.Text) > 8 || k.Kind == api.TokText && len(k.Text) > 16 || len(l) == 60 {
			return nil, i, api.ErrLong, at
		}
		l = append(l, k)
		i += m[1]
	}
	return l, len(s), api.OK, at
}

// asBooked holds Lex against lexed.
func asBooked(t *testing.T, s string) {
	t.Helper()
	l, n, e := lex.Lex(s)
	wantL, wantN, wantE, _ := lexed(s)
	if !slices.Equal(l, wantL) || n != wantN || e != wantE {
		t.Fatalf("Lex(%q): %s, %d, %v; not %s, %d, %v", s, told(l), n, e, told(wantL), wantN, wantE)
	}
}

func TestLexOfAllShortTexts(t *testing.T) {
	const kinds = "az09.\" <>=!+(A_\x1f\x7f\xc3"
	var further func(s string)
	further = func(s string) {
		asBooked(t, s)
		if len(s) == 4 {
			return
		}
		for i := range len(kinds) {
			further(s + kinds[i:i+1])
		}
	}
	further("")
}

// piece is a drawn token, now and then one that is wrong, or nearly.
func (x *draw) piece() string {
	run := func(of string, n int) string {
		var b strings.Builder
		for range n {
			b.WriteByte(of[x.next(len(of))])
		}
		return b.String()
	}
	const small, digits = "abcxyz", "0123456789"
	switch x.next(40) {
	case 0:
		return run(small, 7+x.next(4))
	case 1:
		return quoted(run(small+" ", 14+x.next(5)))
	case 2:
		return string([]byte{byte(x.next(256))})
	case 3:
		return "\""
	case 4, 5:
		return words()[x.next(9)]
	}
	switch x.next(4) {
	case 0:
		return run(small, 1) + run(small+digits, x.next(3))
	case 1:
		return run(digits, 1+x.next(3)) + []string{"", "." + run(digits, 1+x.next(2))}[x.next(2)]
	case 2:
		return quoted(run(small+digits+" <=.+", x.next(4)))
	}
	return signs()[x.next(16)]
}

// text is a drawn text of up to n pieces.
func (x *draw) text(n int) string {
	var b strings.Builder
	for range x.next(n + 1) {
		b.WriteString(x.piece() + blanks(max(0, x.next(4)-2)))
	}
	return b.String()
}

func TestLexOfDrawnTexts(t *testing.T) {
	x := draw(1)
	seen := map[api.Errno]int{}
	for i := range 60000 {
		s := x.text([]int{4, 12, 75}[i%3])
		asBooked(t, s)
		_, _, e := lex.Lex(s)
		seen[e]++
		if cut := x.next(len(s) + 1); i%2 == 0 {
			asBooked(t, s[:cut]+string([]byte{byte(x.next(256))})+s[cut:])
			asBooked(t, s[:cut])
			asBooked(t, s[cut:])
		}
	}
	if seen[api.OK] < 1000 || seen[api.ErrForm] < 1000 || seen[api.ErrLong] < 1000 {
		t.Errorf("too few of a kind were drawn: %v", seen)
	}
}

// P3.3: at the places where tokens begin, and at the text's end, blanks are put; they move places by as many, and nothing else.
func TestMoreBlanksChangePlacesAlone(t *testing.T) {
	x := draw(2)
	for range 20000 {
		s := x.text(20)
		l, n, e := lex.Lex(s)
		_, _, _, at := lexed(s)
		var b strings.Builder
		moved, from := 0, 0
		want := slices.Clone(l)
		for i, p := range at {
			more := x.next(4)
			b.WriteString(s[from:p] + blanks(more))
			moved, from = moved+more, p
			if i < len(want) {
				want[i].Pos += moved
			}
		}
		b.WriteString(s[from:])
		if e == api.OK {
			end := x.next(4)
			b.WriteString(blanks(end))
			moved += end
		}
		if b.Len() > api.MaxSource {
			continue
		}
		if got, m, f := lex.Lex(b.String()); !slices.Equal(got, want) || m != n+moved || f != e {
			t.Fatalf("%q: %s, %d, %v; with more blanks, %q: %s, %d, %v", s, told(l), n, e, b.String(), told(got), m, f)
		}
	}
}
