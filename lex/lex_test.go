package lex_test

import (
	"strconv"
	"strings"
	"testing"

	"dossier/api"
	"dossier/lex"
)

// told is tokens in words: a letter for the kind, what it says in quotes, its place.
func told(l []api.Tok) string {
	var b strings.Builder
	for _, k := range l {
		kind, has := map[int]string{api.TokName: "n", api.TokNum: "d", api.TokText: "t", api.TokSign: "s"}[k.Kind]
		if !has {
			kind = "?" + strconv.Itoa(k.Kind)
		}
		b.WriteString(kind + strconv.Quote(k.Text) + "@" + strconv.Itoa(k.Pos) + " ")
	}
	return strings.TrimSuffix(b.String(), " ")
}

// right asks for a text's tokens, which have nothing wrong.
func right(t *testing.T, s, want string) {
	t.Helper()
	if l, n, e := lex.Lex(s); told(l) != want || n != len(s) || e != api.OK {
		t.Errorf("Lex(%q): %s, %d, %v; not %s, %d, OK", s, told(l), n, e, want, len(s))
	}
}

// wrong asks for the place of a text's first wrong token, and its error.
func wrong(t *testing.T, s string, at int, want api.Errno) {
	t.Helper()
	if l, n, e := lex.Lex(s); len(l) != 0 || n != at || e != want {
		t.Errorf("Lex(%q): %s, %d, %v; not %d, %v", s, told(l), n, e, at, want)
	}
}

func letters(n int) string   { return strings.Repeat("a", n) }
func blanks(n int) string    { return strings.Repeat(" ", n) }
func quoted(s string) string { return "\"" + s + "\"" }

func TestLexOfNothing(t *testing.T) {
	right(t, "", "")
	right(t, " ", "")
	right(t, blanks(api.MaxSource), "")
}

func TestLexOfMaxSource(t *testing.T) {
	digits := strings.Repeat("7", api.MaxSource)
	right(t, digits, "d"+strconv.Quote(digits)+"@0")
	right(t, blanks(api.MaxSource-1)+"x", `n"x"@`+strconv.Itoa(api.MaxSource-1))
	right(t, "x"+blanks(api.MaxSource-1), `n"x"@0`)
	wrong(t, blanks(api.MaxSource-1)+"!", api.MaxSource-1, api.ErrForm)
	wrong(t, digits+"7", 0, api.ErrLong)
	wrong(t, blanks(api.MaxSource+1), 0, api.ErrLong)
	wrong(t, blanks(api.MaxSource)+"x", 0, api.ErrLong)
	wrong(t, blanks(1<<20), 0, api.ErrLong)
	wrong(t, strings.Repeat("\x00\xff\"", 1<<18), 0, api.ErrLong)
}

func TestLexOfBlanks(t *testing.T) {
	right(t, "a", `n"a"@0`)
	right(t, "   a", `n"a"@3`)
	right(t, "a   ", `n"a"@0`)
	right(t, "  a  1 <  \"b\"  ", `n"a"@2 d"1"@5 s"<"@7 t"b"@10`)
	right(t, `a<1"b"c`, `n"a"@0 s"<"@1 d"1"@2 t"b"@3 n"c"@6`)
	right(t, "a b", `n"a"@0 n"b"@2`)
	right(t, "1 2", `d"1"@0 d"2"@2`)
	right(t, "1 .. 2", `d"1"@0 s".."@2 d"2"@5`)
	right(t, "< =", `s"<"@0 s"="@2`)
	for _, s := range []string{"\t", "\n", "\v", "\f", "\r", "\x00", "\u0085", "\u00a0", "\u2003", "\u3000"} {
		wrong(t, s, 0, api.ErrForm)
		wrong(t, "a "+s+" b", 2, api.ErrForm)
	}
}

func TestLexOfNames(t *testing.T) {
	for _, s := range []string{"a", "z", "a0", "z9", "a0b1c2d3", "aaaaaaaa", "not", "list", "true1", "ina"} {
		right(t, s, "n"+strconv.Quote(s)+"@0")
	}
	right(t, "abcdefghijklm"[:api.MaxName], `n"abcdefgh"@0`)
	wrong(t, letters(api.MaxName+1), 0, api.ErrLong)
	wrong(t, "a12345678", 0, api.ErrLong)
	wrong(t, "x + "+letters(api.MaxName+1)+" 1", 4, api.ErrLong)
	wrong(t, letters(api.MaxSource), 0, api.ErrLong)
	right(t, "1a", `d"1"@0 n"a"@1`)
	right(t, "1aaaaaaaa", `d"1"@0 n"aaaaaaaa"@1`)
	wrong(t, "1aaaaaaaaa", 1, api.ErrLong)
	for _, s := range []string{"A", "Z", "_", "`", "{", "@", "\u00e4", "\u00df", "\u0661", "\uff41"} {
		wrong(t, s, 0, api.ErrForm)
		wrong(t, s+"a", 0, api.ErrForm)
		wrong(t, "a"+s+"b", 1, api.ErrForm)
		wrong(t, "a1 "+s, 3, api.ErrForm)
	}
}

func TestLexOfWords(t *testing.T) {
	for _, s := range words() {
		right(t, s, "n"+strconv.Quote(s)+"@0")
	}
	right(t, "if true then null else false", `n"if"@0 n"true"@3 n"then"@8 n"null"@13 n"else"@18 n"false"@23`)
	right(t, "a and b or c in[1..2]", `n"a"@0 n"and"@2 n"b"@6 n"or"@8 n"c"@11 n"in"@13 s"["@15 d"1"@16 s".."@17 d"2"@19 s"]"@20`)
	wrong(t, "truefalse", 0, api.ErrLong)
	wrong(t, "True", 0, api.ErrForm)
}

func TestLexOfNumbers(t *testing.T) {
	for _, s := range []string{"0", "9", "00", "007", "1234567890", "0.0", "1.5", "12.3456789", "000.000", "9999999999999999999.9999999999999999999"} {
		right(t, s, "d"+strconv.Quote(s)+"@0")
	}
	right(t, "1..2.5", `d"1"@0 s".."@1 d"2.5"@3`)
	right(t, "1.5..2", `d"1.5"@0 s".."@3 d"2"@5`)
	right(t, "1..", `d"1"@0 s".."@1`)
	right(t, "..1", `s".."@0 d"1"@2`)
	right(t, "....", `s".."@0 s".."@2`)
	right(t, "-1.5", `s"-"@0 d"1.5"@1`)
	right(t, "1e5", `d"1"@0 n"e5"@1`)
	wrong(t, "1.", 1, api.ErrForm)
	wrong(t, "1. 5", 1, api.ErrForm)
	wrong(t, "1 .5", 2, api.ErrForm)
	wrong(t, ".5", 0, api.ErrForm)
	wrong(t, "1.x", 1, api.ErrForm)
	wrong(t, "1.2.3", 3, api.ErrForm)
	wrong(t, "1.2.", 3, api.ErrForm)
	wrong(t, "1...5", 3, api.ErrForm)
	wrong(t, "1.-2", 1, api.ErrForm)
}

func TestLexOfTexts(t *testing.T) {
	for _, s := range []string{"", " ", "   ", "a", "A_b", "\x20\x21\x23\x7e", "1..2", "<=", "a'b\\n", letters(api.MaxText), blanks(api.MaxText)} {
		right(t, quoted(s), "t"+strconv.Quote(s)+"@0")
		right(t, " "+quoted(s)+"x", "t"+strconv.Quote(s)+"@1 n\"x\"@"+strconv.Itoa(len(s)+3))
	}
	right(t, `""""`, `t""@0 t""@2`)
	right(t, `"a""b"`, `t"a"@0 t"b"@3`)
	wrong(t, quoted(letters(api.MaxText+1)), 0, api.ErrLong)
	wrong(t, "x "+quoted(blanks(api.MaxText+1))+" y", 2, api.ErrLong)
	wrong(t, quoted(letters(api.MaxSource-2)), 0, api.ErrLong)
}

func TestLexOfTextsThatDoNotEnd(t *testing.T) {
	for _, s := range []string{"", "a", "a b ", letters(api.MaxText), letters(api.MaxText + 1), letters(api.MaxSource - 3)} {
		wrong(t, "\""+s, 0, api.ErrForm)
		wrong(t, "x \""+s, 2, api.ErrForm)
	}
	wrong(t, `"a" "`, 4, api.ErrForm)
	wrong(t, `"""`, 2, api.ErrForm)
	wrong(t, `"a"b"c`, 4, api.ErrForm)
	for _, s := range []string{"\x1f", "\x7f", "\x00", "\t", "\n", "\x80", "\xff", "\u00e4"} {
		wrong(t, quoted(s), 0, api.ErrForm)
		wrong(t, quoted("a"+s), 0, api.ErrForm)
		wrong(t, "1 "+quoted(s+"a"), 2, api.ErrForm)
	}
}

func TestLexOfEachByte(t *testing.T) {
	for c := range 256 {
		s := string([]byte{byte(c)})
		within := c >= 0x20 && c <= 0x7e && c != '"'
		switch {
		case c == '"':
			wrong(t, quoted(s), 2, api.ErrForm)
		case within:
			right(t, quoted(s), "t"+strconv.Quote(s)+"@0")
		default:
			wrong(t, quoted(s), 0, api.ErrForm)
		}
		switch {
		case c == ' ':
			right(t, s, "")
		case strings.Contains("abcdefghijklmnopqrstuvwxyz", s):
			right(t, s, "n"+strconv.Quote(s)+"@0")
		case strings.Contains("0123456789", s):
			right(t, s, "d"+strconv.Quote(s)+"@0")
		case strings.Contains("<>=+-*/()[],", s):
			right(t, s, "s"+strconv.Quote(s)+"@0")
		default:
			wrong(t, s, 0, api.ErrForm)
		}
	}
}

func TestLexOfSigns(t *testing.T) {
	for _, s := range signs() {
		right(t, s, "s"+strconv.Quote(s)+"@0")
		right(t, "a"+s+"1", `n"a"@0 s`+strconv.Quote(s)+`@1 d"1"@`+strconv.Itoa(1+len(s)))
	}
	right(t, "<=>=!=<>==", `s"<="@0 s">="@2 s"!="@4 s"<"@6 s">="@7 s"="@9`)
	right(t, "===", `s"="@0 s"="@1 s"="@2`)
	right(t, "=<", `s"="@0 s"<"@1`)
	right(t, "<<=", `s"<"@0 s"<="@1`)
	right(t, "--", `s"-"@0 s"-"@1`)
	right(t, "**", `s"*"@0 s"*"@1`)
	wrong(t, "!", 0, api.ErrForm)
	wrong(t, "! =", 0, api.ErrForm)
	wrong(t, "!!=", 0, api.ErrForm)
	wrong(t, "=!", 1, api.ErrForm)
	wrong(t, ".", 0, api.ErrForm)
	wrong(t, "...", 2, api.ErrForm)
	wrong(t, ". .", 0, api.ErrForm)
	for _, s := range []string{"&", "|", "%", "^", "{", "}", ";", ":", "?", "#", "'", "\\", "~", "$"} {
		wrong(t, s, 0, api.ErrForm)
	}
}

func TestLexOfMaxToks(t *testing.T) {
	most := strings.Repeat("+", api.MaxToks-1)
	for _, s := range append([]string{"a", "12", "1.5", "true", `""`, `"b"`, letters(api.MaxName), quoted(letters(api.MaxText))}, signs()...) {
		full := most + " " + s + blanks(3)
		if l, n, e := lex.Lex(full); len(l) != api.MaxToks || n != len(full) || e != api.OK {
			t.Errorf("Lex(%q): %d tokens, %d, %v", full, len(l), n, e)
		}
		wrong(t, full+s, len(full), api.ErrLong)
		wrong(t, full+"  "+s+" "+s, len(full)+2, api.ErrLong)
	}
	wrong(t, most+"+-", api.MaxToks, api.ErrLong)
	wrong(t, strings.Repeat("+", api.MaxSource), api.MaxToks, api.ErrLong)
}

func TestLexWhichError(t *testing.T) {
	full := strings.Repeat("1 ", api.MaxToks)
	wrong(t, full+"!", len(full), api.ErrForm)
	wrong(t, full+"\"x", len(full), api.ErrForm)
	wrong(t, full+"\""+letters(api.MaxText+1), len(full), api.ErrForm)
	wrong(t, full+"2 !", len(full), api.ErrLong)
	wrong(t, full+letters(api.MaxName+1), len(full), api.ErrLong)
	wrong(t, full+quoted(letters(api.MaxText+1)), len(full), api.ErrLong)
	wrong(t, "! "+full+"2", 0, api.ErrForm)
	wrong(t, full[2:]+"! 2", len(full)-2, api.ErrForm)
	wrong(t, "!"+blanks(api.MaxSource), 0, api.ErrLong)
	wrong(t, "  !"+blanks(api.MaxSource), 0, api.ErrLong)
	wrong(t, "! "+letters(api.MaxName+1), 0, api.ErrForm)
	wrong(t, letters(api.MaxName+1)+" !", 0, api.ErrLong)
	wrong(t, letters(api.MaxName+1)+"!", 0, api.ErrLong)
	wrong(t, letters(api.MaxName+1)+"\"", 0, api.ErrLong)
	wrong(t, quoted(letters(api.MaxText+1))+"\"", 0, api.ErrLong)
	wrong(t, "\""+letters(api.MaxText+1)+"\x1f\"", 0, api.ErrForm)
	wrong(t, "x! "+quoted(letters(api.MaxText+1)), 1, api.ErrForm)
}

func TestLexAnswersNewMemory(t *testing.T) {
	const s = `a <= 1.5 and "b" in [1..2]`
	first, _, _ := lex.Lex(s)
	second, _, _ := lex.Lex(s)
	want := told(second)
	for i := range first[:cap(first)] {
		first[:cap(first)][i] = api.Tok{Kind: 9, Text: "spoilt", Pos: -1}
	}
	third, _, _ := lex.Lex(s)
	if told(second) != want || told(third) != want {
		t.Errorf("a change of one answer is one of another: %s, %s", told(second), told(third))
	}
}
