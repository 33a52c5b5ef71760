package feel_test

import (
	"strings"
	"testing"

	"dossier/api"
)

// nest is a text that has an expression within, one deeper than itself: what
// stands ahead of it, what behind it, both told, and where within the former
// the first one that is deeper begins.
type nest struct {
	open, shut, toldOpen, toldShut string
	first                          int
}

func nests() []nest {
	return []nest{
		{"(", ")", "", "", 1},
		{"-", "", "{neg ", "}", 1},
		{"[", "]", "[", "]", 1},
		{"[a,", "]", "[a ", "]", 1},
		{"[", ",a]", "[", " a]", 1},
		{"f(", ")", "f(", ")", 2},
		{"f(a,", ")", "f(a ", ")", 2},
		{"if ", " then a else b", "{if ", " a b}", 3},
		{"if a then ", " else b", "{if a ", " b}", 3},
		{"if a then b else ", "", "{if a b ", "}", 3},
		{"a in[", "..b]", "{in [] a ", " b}", 5},
		{"a in(b..", ")", "{in () a b ", "}", 5},
	}
}

// deeper is a text within n of one nest, and that told.
func deeper(n int, w nest, s, want string) (text, tells string) {
	text = strings.Repeat(w.open, n) + s + strings.Repeat(w.shut, n)
	tells = strings.Repeat(w.toldOpen, n) + want + strings.Repeat(w.toldShut, n)
	return text, tells
}

func TestDeepOfEachNest(t *testing.T) {
	for _, w := range nests() {
		for _, s := range []string{"1", "x", "true", "[]", "f()"} {
			for n := range api.MaxDeep + 1 {
				text, want := deeper(n, w, s, s)
				right(t, text, want)
			}
		}
		text, _ := deeper(api.MaxDeep+1, w, "1", "1")
		wrong(t, text, len(w.open)*api.MaxDeep+w.first, api.ErrDeep)
	}
}

// Each nest stands in each other, so that what is within has MaxDeep, and one more.
func TestDeepOfTwoNests(t *testing.T) {
	for _, out := range nests() {
		for _, in := range nests() {
			if out.open == "-" && strings.HasPrefix(in.open, "a in") {
				continue // a sign binds closer
			}
			once, tells := deeper(1, in, "x", "x")
			text, want := deeper(api.MaxDeep-1, out, once, tells)
			right(t, text, want)
			text, _ = deeper(api.MaxDeep, out, once, tells)
			wrong(t, text, len(out.open)*api.MaxDeep+in.first, api.ErrDeep)
		}
	}
}

func TestDeepWhateverStandsThere(t *testing.T) {
	for _, open := range []string{"(", "-", "[", "f(", "if ", "x in[", "x in("} {
		ahead := strings.Repeat("(", api.MaxDeep) + open
		at := len(ahead)
		wrong(t, ahead, at, api.ErrDeep)
		wrong(t, ahead+"  ", at+2, api.ErrDeep)
		for _, s := range []string{"1", "x", "\"t\"", "null", "(", "[", "-", ",", "..", "+", "*", "<", "if", "then", "else", "in", "or", "1000000001", "1.123456789"} {
			wrong(t, ahead+s, at, api.ErrDeep)
			wrong(t, ahead+"  "+s+" )", at+2, api.ErrDeep)
		}
		for _, shut := range []string{")", "]"} {
			if open != "[" && open != "f(" {
				wrong(t, ahead+shut, at, api.ErrDeep)
			}
		}
	}
	wrong(t, strings.Repeat("(", api.MaxDeep)+"[)", api.MaxDeep+1, api.ErrDeep)
	wrong(t, strings.Repeat("(", api.MaxDeep)+"f(]", api.MaxDeep+2, api.ErrDeep)
	// one less deep it is what stands there that is wrong
	for _, s := range []string{")", ",", "..", "*", "then"} {
		wrong(t, strings.Repeat("(", api.MaxDeep)+s, api.MaxDeep, api.ErrForm)
	}
	wrong(t, strings.Repeat("(", api.MaxDeep), api.MaxDeep, api.ErrForm)
	wrong(t, strings.Repeat("-", api.MaxDeep), api.MaxDeep, api.ErrForm)
	wrong(t, strings.Repeat("-", api.MaxDeep+1), api.MaxDeep+1, api.ErrDeep)
}

func TestDeepOfWhatHasNothingInIt(t *testing.T) {
	for _, s := range []string{"[]", "f()"} {
		for _, open := range []string{"(", "-", "["} {
			text := strings.Repeat(open, api.MaxDeep) + s
			shut := map[string]string{"(": ")", "-": "", "[": "]"}[open]
			whole := text + strings.Repeat(shut, api.MaxDeep)
			told := map[string]string{"(": "", "-": "{neg ", "[": "["}[open]
			end := map[string]string{"(": "", "-": "}", "[": "]"}[open]
			right(t, whole, strings.Repeat(told, api.MaxDeep)+s+strings.Repeat(end, api.MaxDeep))
			wrong(t, strings.Repeat(open, api.MaxDeep+1)+s, api.MaxDeep+1, api.ErrDeep)
			wrong(t, text+" x", len(text)+1, api.ErrForm)
		}
		inside := s[:len(s)-1] + "1" + s[len(s)-1:]
		wrong(t, strings.Repeat("-", api.MaxDeep)+inside, api.MaxDeep+len(s)-1, api.ErrDeep)
		wrong(t, strings.Repeat("-", api.MaxDeep)+s[:len(s)-1]+",", api.MaxDeep+len(s)-1, api.ErrDeep)
	}
	wrong(t, "[[[[[[[[[]", 10, api.ErrForm)
}

func TestDeepOfManyNests(t *testing.T) {
	right(t, "-(-(-(-(1))))", "{neg {neg {neg {neg 1}}}}")
	wrong(t, "-(-(-(-(-1))))", 9, api.ErrDeep)
	right(t, "[f(if (-x) in [((1))..2] then 3 else 4)]", "[f({if {in [] {neg x} 1 2} 3 4})]")
	right(t, "[f(if x in [((((1))))..2] then 3 else 4)]", "[f({if {in [] x 1 2} 3 4})]")
	wrong(t, "[f(if x in [(((((1)))))..2] then 3 else 4)]", 17, api.ErrDeep)
	wrong(t, "[f(if x in [1..(((((2)))))] then 3 else 4)]", 20, api.ErrDeep)
}

// What stands side by side goes no deeper.
func TestDeepSideBySide(t *testing.T) {
	right(t, "(((((1))))) + (((((2)))))", "{+ 1 2}")
	right(t, "--------1 - --------2", "{- "+strings.Repeat("{neg ", 8)+"1"+strings.Repeat("}", 8)+" "+strings.Repeat("{neg ", 8)+"2"+strings.Repeat("}", 8)+"}")
	wrong(t, "--------1 - ---------2", 21, api.ErrDeep)
	wrong(t, "---------1 - 2", 9, api.ErrDeep)
	right(t, "((((((((a or b and c < d + e * f))))))))", "{or a {and b {< c {+ d {* e f}}}}}")
	right(t, "((((((((a)))))))) in [b..c]", "{in [] a b c}")
	wrong(t, "((((((((a in [b..c]))))))))", 14, api.ErrDeep)
	right(t, "(((((((a in [b..c])))))))", "{in [] a b c}")
	right(t, "[[[[[[[[1,2],3],4],5],6],7],8],9]", "[[[[[[[[1 2] 3] 4] 5] 6] 7] 8] 9]")
	wrong(t, "((((((((a in b))))))))", 13, api.ErrForm)
	wrong(t, "((((((((a in))))))))", 12, api.ErrForm)
	// the last part of an if takes what it can, with its own depth
	right(t, "((((((if a then b else c + -d))))))", "{if a b {+ c {neg d}}}")
	wrong(t, "(((((((if a then b else c + -d)))))))", 29, api.ErrDeep)
	right(t, "(((((((if a then b else c + d)))))))", "{if a b {+ c d}}")
}
