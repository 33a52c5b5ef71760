package val_test

import (
	"testing"

	"dossier/api"
	"dossier/val"
)

// others is values that are neither true nor false.
func others() []api.Val {
	return []api.Val{null(), num(0, 0), num(1, 0), txt(""), txt("true"), txt("false"), list(), list(yes(true)), list(yes(false)), full(8), {B: true}, kind(5), kind(-1), {Kind: api.Num, B: true}, {Kind: api.Text, B: true}}
}

func TestThreeTables(t *testing.T) {
	no, un, ye := yes(false), null(), yes(true)
	for _, x := range []struct{ a, b, and, or api.Val }{
		{no, no, no, no}, {no, un, no, un}, {no, ye, no, ye},
		{un, no, no, un}, {un, un, un, un}, {un, ye, un, ye},
		{ye, no, no, ye}, {ye, un, un, ye}, {ye, ye, ye, ye},
	} {
		as, bs := []api.Val{x.a}, []api.Val{x.b}
		if x.a.Kind == api.Null {
			as = others()
		}
		if x.b.Kind == api.Null {
			bs = others()
		}
		for _, a := range as {
			for _, b := range bs {
				if v := val.And(a, b); told(v) != told(x.and) {
					t.Errorf("And(%s, %s): %s", told(a), told(b), told(v))
				}
				if v := val.Or(a, b); told(v) != told(x.or) {
					t.Errorf("Or(%s, %s): %s", told(a), told(b), told(v))
				}
			}
		}
	}
}

func TestNot(t *testing.T) {
	if told(val.Not(yes(true))) != told(yes(false)) || told(val.Not(yes(false))) != told(yes(true)) {
		t.Error("Not of a Bool")
	}
	for _, v := range append(others(), wrong()...) {
		if n := val.Not(v); told(n) != told(null()) {
			t.Errorf("Not of Kind %d: %s", v.Kind, told(n))
		}
	}
}

func TestThreeHandOutNoRows(t *testing.T) {
	a, b := with(yes(true), bare(make([]api.Val, 0, 2))), with(yes(false), bare(make([]api.Val, 0, 2)))
	for i, v := range []api.Val{val.And(a, b), val.And(b, a), val.And(a, a), val.And(b, b), val.Or(a, b), val.Or(b, a), val.Or(a, a), val.Or(b, b), val.Not(a), val.Not(b), val.And(spare(), a), val.Or(spare(), b), val.Not(spare())} {
		if cap(v.L) != 0 {
			t.Errorf("%d: a row is handed out", i)
		}
	}
}

func TestNothingIsChanged(t *testing.T) {
	behind := func(v api.Val) string { return told(list(room(v)...)) }
	for _, v := range sample(300) {
		w := spare(v, txt("x"))
		if len(w.L) > 0 {
			room(w)[2] = txt("behind")
		}
		before, spareBefore := told(w), behind(w)
		for _, o := range []api.Val{null(), yes(true), w, list(v), list(v, v)} {
			val.Is(w)
			val.Equal(w, o)
			val.Equal(o, w)
			val.Cmp(w, o)
			val.Cmp(o, w)
			val.And(w, o)
			val.And(o, w)
			val.Or(w, o)
			val.Or(o, w)
		}
		val.Not(w)
		val.Truth(w)
		val.Copy(w)
		if told(w) != before || behind(w) != spareBefore {
			t.Fatalf("%s has become %s", before, told(w))
		}
	}
}

func TestWrongValuesEnd(t *testing.T) {
	for _, a := range wrong() {
		for _, b := range append(wrong(), sample(20)...) {
			val.Equal(a, b)
			val.And(a, b)
			val.Or(b, a)
			if n := val.Cmp(a, b); val.Is(b) && n != 1 || !val.Is(b) && n != 0 {
				t.Errorf("Cmp of Kind %d, which may not be, and Kind %d: %d", a.Kind, b.Kind, n)
			}
		}
	}
}
