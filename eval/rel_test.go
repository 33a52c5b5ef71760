package eval_test

import (
	"testing"

	"dossier/api"
	"dossier/eval"
	"dossier/show"
	"dossier/val"
)

// groups is values that may be, one group a Kind, each in its order.
func groups() [][]api.Val {
	return [][]api.Val{
		{null()},
		{yes(false), yes(true)},
		{num(-api.MaxM, 0), num(-2, 0), num(-15, 1), num(-1, 4), num(0, 0), num(1, 4), num(5, 1), num(1, 0), num(11, 1), num(9, 0), num(10, 0), num(api.MaxM, 0)},
		{txt(""), txt(" "), txt("10"), txt("9"), txt("A"), txt("a"), txt("a "), txt("aa"), txt("b"), txt("sixteen bytes xx"), txt("~")},
		{list(), list(null()), list(null(), null()), list(yes(true)), list(num(1, 0)), list(num(1, 0), num(2, 0)), list(num(2, 0)), list(txt("a")), list(list()), list(list(null()))},
	}
}

func holds(t *testing.T, op string, a, b api.Val, want string) {
	t.Helper()
	v := eval.Rel(op, a, b)
	if show.Val(v) != want || !val.Is(v) || cap(v.L) != 0 {
		t.Errorf("Rel(%q, %s, %s): %s, not %s", op, show.Val(a), show.Val(b), show.Val(v), want)
	}
}

func word(b bool) string {
	if b {
		return "true"
	}
	return "false"
}

func TestRelOfEachPair(t *testing.T) {
	for ka, as := range groups() {
		for i, a := range as {
			for kb, bs := range groups() {
				for j, b := range bs {
					same := ka == kb && i == j
					holds(t, "=", a, b, word(same))
					holds(t, "!=", a, b, word(!same))
					ordered := ka == kb && (ka == api.Num || ka == api.Text)
					for op, is := range map[string]bool{"<": i < j, "<=": i <= j, ">": i > j, ">=": i >= j} {
						if ordered {
							holds(t, op, a, b, word(is))
						} else {
							holds(t, op, a, b, "null")
						}
						// As an operator it is the same.
						env := []api.Bind{{Name: "a", V: a}, {Name: "b", V: b}}
						is := show.Val(eval.Rel(op, a, b))
						if v, e := eval.Eval(bin(op, name("a"), name("b")), env); show.Val(v) != is || e != api.OK {
							t.Errorf("%s %s %s: %s, %v; not %s", show.Val(a), op, show.Val(b), show.Val(v), e, is)
						}
					}
				}
			}
		}
	}
}

func TestRelOfOtherOps(t *testing.T) {
	for _, op := range []string{"", "==", "<>", "=<", "=>", "!", "!==", "< ", " <", "<=>", ">>", "+", "-", "*", "/", "and", "or", "in", "lt", "\x00", "\xff", "\u2264"} {
		for _, as := range groups() {
			for _, a := range as {
				for _, bs := range groups() {
					holds(t, op, a, bs[0], "null")
				}
				holds(t, op, a, a, "null")
			}
		}
	}
}

func TestRelOfNilAndEmptyLists(t *testing.T) {
	for _, l := range [][]api.Val{nil, {}, make([]api.Val, 0, 3)} {
		holds(t, "=", list(), list(l...), "true")
		holds(t, "!=", list(list(l...)), list(list()), "false")
		holds(t, "<=", list(l...), list(), "null")
		a, b := num(1, 0), txt("x")
		a.L, b.L = l, l
		holds(t, "=", a, num(1, 0), "true")
		holds(t, "<=", a, num(1, 0), "true")
		holds(t, ">", b, txt("w"), "true")
	}
}

func TestRelChangesNothing(t *testing.T) {
	inner := []api.Val{num(1, 0), txt("spare")}
	l := []api.Val{list(inner[:1]...), num(2, 0), txt("room")}
	a, b := list(l[:2]...), list(list(num(1, 0)), num(2, 0))
	for _, op := range []string{"=", "!=", "<", "<=", ">", ">=", "?"} {
		eval.Rel(op, a, b)
		eval.Rel(op, b, a)
	}
	if show.Val(list(inner...)) != `[1, "spare"]` || show.Val(list(l...)) != `[[1], 2, "room"]` || show.Val(b) != "[[1], 2]" {
		t.Error("what is handed in is changed")
	}
}

// Nothing is said of values that may not be; but it ends, and what is answered may be.
func TestRelOfValuesThatMayNotBe(t *testing.T) {
	for _, a := range unsound() {
		for _, b := range append(unsound(), num(1, 0), txt("a"), list(), null()) {
			for _, op := range []string{"=", "!=", "<", "<=", ">", ">=", "?"} {
				if v, w := eval.Rel(op, a, b), eval.Rel(op, b, a); !val.Is(v) || !val.Is(w) {
					t.Errorf("%s of Kinds %d and %d: what may not be", op, a.Kind, b.Kind)
				}
			}
		}
	}
}
