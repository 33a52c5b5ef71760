package lex_test

import (
	"strings"
	"testing"

	"dossier/lex"
)

func words() []string {
	return []string{"true", "false", "null", "if", "then", "else", "and", "or", "in"}
}

func TestWord(t *testing.T) {
	for _, s := range words() {
		if !lex.Word(s) {
			t.Errorf("Word(%q): false", s)
		}
	}
}

func TestWordOfTextsNear(t *testing.T) {
	near := []string{"", " ", "i f", "or in", "truefalse", "not", "nil", "xor", "i\u0307n", "ıf", strings.Repeat("in", 1<<16)}
	for _, w := range words() {
		near = append(near, w[1:], w[:len(w)-1], w+"s", "a"+w, w+w, w+"0", strings.ToUpper(w), strings.ToUpper(w[:1])+w[1:], w[:len(w)-1]+strings.ToUpper(w[len(w)-1:]), " "+w, w+" ", w+"\x00", w+"\n", "\""+w+"\"")
	}
	for _, s := range near {
		if lex.Word(s) {
			t.Errorf("Word(%q): true", s)
		}
	}
}

// All texts of small letters that are as long as a word: no more than the nine are words.
func TestWordOfAllShortTexts(t *testing.T) {
	n := 0
	var further func(s []byte)
	further = func(s []byte) {
		if lex.Word(string(s)) {
			n++
		}
		if len(s) == 5 {
			return
		}
		for c := byte('a'); c <= 'z'; c++ {
			further(append(s, c))
		}
	}
	further(make([]byte, 0, 5))
	if n != len(words()) {
		t.Errorf("%d words", n)
	}
}
