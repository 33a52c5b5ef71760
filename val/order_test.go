package val_test

import (
	"strings"
	"testing"

	"dossier/api"
	"dossier/val"
)

func TestCmpInARow(t *testing.T) {
	row := []api.Val{
		null(), yes(false), yes(true),
		num(-1000000000, 0), num(-2, 0), num(-15, 1), num(-1, 0), num(-1, 4), num(0, 0), num(1, 4), num(5, 1), num(1, 0), num(11, 1), num(15, 1), num(2, 0), num(10, 0), num(999999999, 0), num(1000000000, 0),
		txt(""), txt(" "), txt("!"), txt("10"), txt("9"), txt("A"), txt("Z"), txt("a"), txt("a "), txt("aa"), txt("ab"), txt("b"), txt("~"),
		list(), list(null()), list(null(), null()), list(null(), list()), list(yes(false)), list(yes(true)), list(yes(true), null()), list(num(1, 0)), list(num(1, 0), null()), list(num(1, 0), num(2, 0)), list(num(2, 0)),
		list(txt("a")), list(txt("a"), txt("b")), list(txt("ab")), list(list()), list(list(), null()), list(list(null())), list(list(null()), null()), list(list(null(), null())), list(list(num(1, 0)), num(9, 0)), list(list(num(2, 0)), num(1, 0)),
	}
	for i, a := range row {
		for k, b := range row {
			want := 0
			if i < k {
				want = -1
			} else if i > k {
				want = 1
			}
			if n := val.Cmp(a, b); n != want {
				t.Errorf("Cmp(%s, %s): %d, not %d", told(a), told(b), n, want)
			}
			if val.Equal(a, b) != (i == k) {
				t.Errorf("Equal(%s, %s): not %t", told(a), told(b), i == k)
			}
		}
	}
}

func TestCmpNilAndEmptyAreOne(t *testing.T) {
	for _, w := range []api.Val{null(), yes(true), num(1, 0), txt("x"), list()} {
		for _, v := range []api.Val{with(w, bare([]api.Val{})), with(w, bare(make([]api.Val, 0, 2)))} {
			if val.Cmp(w, v) != 0 || val.Cmp(v, w) != 0 || !val.Equal(v, w) || !val.Equal(list(w), list(v)) {
				t.Errorf("%s: not one with an empty row", told(w))
			}
		}
	}
}

func TestCmpByKeys(t *testing.T) {
	all := sample(600)
	keys := make([]string, len(all))
	for i, v := range all {
		keys[i] = key(v)
	}
	for i, a := range all {
		for k, b := range all {
			want := strings.Compare(keys[i], keys[k])
			if n := val.Cmp(a, b); n != want {
				t.Fatalf("Cmp(%s, %s): %d, not %d", told(a), told(b), n, want)
			}
			if val.Equal(a, b) != (want == 0) {
				t.Fatalf("Equal(%s, %s): not %t", told(a), told(b), want == 0)
			}
		}
	}
}

func TestCmpIsAnOrder(t *testing.T) {
	all := append(sample(100), wrong()...)
	for i, a := range all {
		for k, b := range all {
			n := val.Cmp(a, b)
			if n < -1 || n > 1 || val.Cmp(b, a) != -n || i == k && n != 0 {
				t.Fatalf("%d, %d: %d, and the other way round %d", i, k, n, val.Cmp(b, a))
			}
			for j, c := range all {
				if n <= 0 && val.Cmp(b, c) <= 0 && val.Cmp(a, c) > 0 {
					t.Fatalf("%d, %d, %d: it does not go on", i, k, j)
				}
			}
		}
	}
}

func TestTruth(t *testing.T) {
	for _, v := range append(sample(200), wrong()...) {
		if want := v.Kind == api.Bool && v.B; val.Truth(v) != want {
			t.Errorf("Truth of Kind %d: not %t", v.Kind, want)
		}
	}
	if !val.Truth(yes(true)) || val.Truth(yes(false)) || val.Truth(null()) || val.Truth(api.Val{B: true}) {
		t.Error("Truth")
	}
}

func TestCopy(t *testing.T) {
	for _, v := range sample(1000) {
		before := told(v)
		c := val.Copy(v)
		if told(c) != before || !val.Equal(c, v) || !val.Is(c) {
			t.Fatalf("Copy(%s): %s", before, told(c))
		}
		spoil(c)
		if told(v) != before {
			t.Fatalf("Copy(%s): a change of the copy is one of it: %s", before, told(v))
		}
		c = val.Copy(v)
		spoil(v)
		if told(c) != before {
			t.Fatalf("Copy(%s): a change of it is one of the copy: %s", before, told(c))
		}
	}
	for i, v := range wrong() {
		if c := val.Copy(v); told(c) != told(null()) {
			t.Errorf("%d: Copy of one that may not be: %s", i, told(c))
		}
	}
}

// spoil overwrites all rows of a value, their spare room too, the inner ones first.
func spoil(v api.Val) {
	for _, k := range v.L {
		spoil(k)
	}
	for i := range room(v) {
		room(v)[i] = txt("spoilt")
	}
}

func TestCopySharesNoSpareRoom(t *testing.T) {
	for _, v := range []api.Val{spare(), spare(null()), spare(spare(), spare(yes(true)), spare()), with(null(), bare(make([]api.Val, 0, 3))), with(txt("x"), bare(make([]api.Val, 0, 3))), list(with(num(1, 0), bare(make([]api.Val, 0, 3))))} {
		c := val.Copy(v)
		spoil(c)
		spoilEnds(c)
		seen := func(w api.Val) bool { return strings.Contains(told(list(room(w)...)), "spoilt") }
		if seen(v) {
			t.Errorf("%s: the copy shares its spare room", told(v))
		}
		for _, k := range v.L {
			if seen(k) {
				t.Errorf("%s: the copy shares an inner one's spare room", told(v))
			}
		}
	}
	same := spare(null())
	c := val.Copy(list(same, same))
	c.L[0].L[0] = yes(true)
	if told(c.L[1]) != told(list(null())) {
		t.Error("two lists of a copy share memory")
	}
}

// spoilEnds writes behind the ends of all rows that a value still has.
func spoilEnds(v api.Val) {
	for _, k := range v.L {
		spoilEnds(k)
	}
	_ = append(v.L, txt("spoilt"))
}
