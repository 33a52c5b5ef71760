package show_test

import (
	"math"
	"strings"
	"testing"

	"dossier/api"
	"dossier/show"
)

// vpair is a value and the text that the document asks for.
type vpair struct {
	v    api.Val
	text string
}

// tells asks for a value's text.
func (p vpair) tells(t *testing.T) {
	t.Helper()
	if s := show.Val(p.v); s != p.text {
		t.Errorf("Val(%#v): %q, not %q", p.v, s, p.text)
	}
}

func vnum(m, s int) api.Val      { return api.Val{Kind: api.Num, D: api.Dec{M: m, S: s}} }
func vtext(s string) api.Val     { return api.Val{Kind: api.Text, T: s} }
func vlist(l ...api.Val) api.Val { return api.Val{Kind: api.List, L: l} }

func single() []vpair {
	l := []vpair{
		{api.Val{}, "null"},
		{api.Val{Kind: api.Bool, B: true}, "true"},
		{api.Val{Kind: api.Bool}, "false"},
		{vnum(0, 0), "0"},
		{vnum(3, 0), "3"},
		{vnum(25, 1), "2.5"},
		{vnum(5, 4), "0.0005"},
		{vnum(-1, 0), "-1"},
		{vnum(-25, 1), "-2.5"},
		{vnum(-5, 4), "-0.0005"},
		{vnum(api.MaxM, 0), "1000000000"},
		{vnum(-api.MaxM, 0), "-1000000000"},
		{vtext(""), `""`},
		{vtext("a b"), `"a b"`},
		{vtext("abcdefghijklmnop"), `"abcdefghijklmnop"`},
		{vtext("[1, 2]"), `"[1, 2]"`},
		{vlist(), "[]"},
	}
	for _, kind := range []int{-1, -4, 5, 6, 11, math.MaxInt, math.MinInt} {
		l = append(l, vpair{api.Val{Kind: kind}, "?"})
		l = append(l, vpair{api.Val{Kind: kind, B: true, D: api.Dec{M: 1}, T: "x", L: []api.Val{{}}}, "?"})
	}
	return l
}

// together is a list of some that are told.
func together(l ...vpair) vpair {
	var v []api.Val
	var s []string
	for _, p := range l {
		v, s = append(v, p.v), append(s, p.text)
	}
	return vpair{vlist(v...), "[" + strings.Join(s, ", ") + "]"}
}

func TestValOfSingle(t *testing.T) {
	for _, p := range single() {
		p.tells(t)
	}
}

func TestValOfLists(t *testing.T) {
	a, b := vnum(1, 0), vtext("x")
	for _, p := range []vpair{
		{vlist(a), "[1]"},
		{vlist(a, b), `[1, "x"]`},
		{vlist(a, b, api.Val{}, vnum(-25, 1)), `[1, "x", null, -2.5]`},
		{vlist(a, a, a, a, a, a, a, a, a, a), "[1, 1, 1, 1, 1, 1, 1, 1, 1, 1]"},
		{vlist(vlist()), "[[]]"},
		{vlist(vlist(), vlist()), "[[], []]"},
		{vlist(a, vlist(b), vlist(a, vlist(a, b))), `[1, ["x"], [1, [1, "x"]]]`},
		{vlist(vlist(vlist(vlist(vlist())))), "[[[[[]]]]]"},
		{vlist(api.Val{Kind: -1}), "[?]"},
		{vlist(a, api.Val{Kind: 5}, a), "[1, ?, 1]"},
		{vlist(vlist(api.Val{Kind: 9}), a), "[[?], 1]"},
	} {
		p.tells(t)
	}
}

func TestValOfEachWithinLists(t *testing.T) {
	for _, p := range single() {
		together(p).tells(t)
		together(together(p)).tells(t)
		for _, q := range single() {
			together(p, q).tells(t)
			together(p, together(q, p), q).tells(t)
		}
	}
	together(single()...).tells(t)
}

func TestValOfFieldsThatAreNotNamed(t *testing.T) {
	of := func(kind int) api.Val {
		return api.Val{Kind: kind, B: true, D: api.Dec{M: -77, S: 1}, T: "zz", L: []api.Val{{}, {Kind: 5}}}
	}
	for kind, want := range []string{"null", "true", "-7.7", `"zz"`, "[null, ?]", "?"} {
		vpair{of(kind), want}.tells(t)
	}
}

func TestValOfNilAndEmptyLists(t *testing.T) {
	for _, l := range [][]api.Val{nil, {}, make([]api.Val, 0, 3)} {
		vpair{vlist(l...), "[]"}.tells(t)
		vpair{vlist(vlist(l...)), "[[]]"}.tells(t)
	}
}

func TestValOfAnyBytes(t *testing.T) {
	for _, s := range []string{"\"", "\\", "\n", "\x00", "\xff\xfe", "\xed\xa0\x80", "ä€", "%s", strings.Repeat("x", 1<<20)} {
		vpair{vtext(s), "\"" + s + "\""}.tells(t)
		vpair{vlist(vtext(s)), "[\"" + s + "\"]"}.tells(t)
	}
}
