package eval_test

import (
	"strings"
	"testing"

	"dossier/api"
)

// nulls asks for Null of a call of each of these rows of arguments.
func nulls(t *testing.T, f string, rows ...string) {
	t.Helper()
	for _, r := range rows {
		asked(t, []ask{{f + "(" + r + ")", "null", api.OK}})
	}
}

func TestAbs(t *testing.T) {
	asked(t, []ask{{"abs(-2.5)", "2.5", api.OK}, {"abs(2.5)", "2.5", api.OK}, {"abs(0)", "0", api.OK}, {"abs(-big)", "1000000000", api.OK}, {"abs(big)", "1000000000", api.OK}, {"abs(-0.0001)", "0.0001", api.OK}, {"abs(x)", "5", api.OK}})
	nulls(t, "abs", "", "1, 2", "-1, nil", "1, 2, 3", "t", "u", "nil", "yes", "l", "[-1]", "e")
}

func TestFloorAndCeil(t *testing.T) {
	asked(t, []ask{
		{"floor(-2.5)", "-3", api.OK}, {"floor(2.5)", "2", api.OK}, {"floor(2)", "2", api.OK}, {"floor(-2)", "-2", api.OK}, {"floor(-0.0001)", "-1", api.OK}, {"floor(0.9999)", "0", api.OK}, {"floor(-big)", "-1000000000", api.OK},
		{"ceil(-2.5)", "-2", api.OK}, {"ceil(2.1)", "3", api.OK}, {"ceil(2)", "2", api.OK}, {"ceil(-2)", "-2", api.OK}, {"ceil(0.0001)", "1", api.OK}, {"ceil(-0.9999)", "0", api.OK}, {"ceil(big)", "1000000000", api.OK},
	})
	for _, f := range []string{"floor", "ceil"} {
		nulls(t, f, "", "1.5, 2", "1.5, nil", "1, 2, 3", "t", "nil", "yes", "l", "[1.5]")
	}
}

func TestNot(t *testing.T) {
	asked(t, []ask{{"not(yes)", "false", api.OK}, {"not(no)", "true", api.OK}, {"not(not(yes))", "true", api.OK}, {"not(x = 5)", "false", api.OK}})
	nulls(t, "not", "", "yes, yes", "no, no", "no, nil", "yes, no, yes", "nil", "none", "1", "0", "t", "l", "[true]", "e")
}

func TestMod(t *testing.T) {
	asked(t, []ask{
		{"mod(7, 3)", "1", api.OK}, {"mod(-7, 3)", "2", api.OK}, {"mod(7, -3)", "-2", api.OK}, {"mod(-7, -3)", "-1", api.OK},
		{"mod(6, 3)", "0", api.OK}, {"mod(-6, 3)", "0", api.OK}, {"mod(6, -3)", "0", api.OK}, {"mod(-6, -3)", "0", api.OK},
		{"mod(0, 3)", "0", api.OK}, {"mod(0, -3)", "0", api.OK}, {"mod(1, 1)", "0", api.OK}, {"mod(2, 3)", "2", api.OK}, {"mod(-2, 3)", "1", api.OK}, {"mod(2, -3)", "-1", api.OK}, {"mod(-2, -3)", "-2", api.OK}, {"mod(10, 5)", "0", api.OK}, {"mod(15, 10)", "5", api.OK},
		{"mod(999999999, big)", "999999999", api.OK}, {"mod(-1, big)", "999999999", api.OK}, {"mod(1, -big)", "-999999999", api.OK}, {"mod(-999999999, -big)", "-999999999", api.OK}, {"mod(big, 999999999)", "1", api.OK}, {"mod(-big, 999999999)", "999999998", api.OK}, {"mod(big, big)", "0", api.OK}, {"mod(-big, big)", "0", api.OK}, {"mod(1, big)", "1", api.OK}, {"mod(big, 7)", "6", api.OK}, {"mod(999999999, 20000)", "19999", api.OK},
		{"mod(1, 0)", "null", api.OK}, {"mod(0, 0)", "null", api.OK}, {"mod(-1, 0)", "null", api.OK}, {"mod(1, h - h)", "null", api.OK},
		{"mod(1.5, 1)", "null", api.OK}, {"mod(3, 1.5)", "null", api.OK}, {"mod(4.5, 1.5)", "null", api.OK}, {"mod(0.5, 0)", "null", api.OK}, {"mod(1, 0.0001)", "null", api.OK}, {"mod(h + h, 3.0)", "2", api.OK},
	})
	nulls(t, "mod", "", "7", "7, 3, 2", "7, 3, nil", "[7, 3]", "t, 3", "7, t", "nil, 3", "7, nil", "t, t", "yes, yes", "l, l", "e, 0", "7, [3]")
}

func TestLenAndCount(t *testing.T) {
	asked(t, []ask{
		{"len(t)", "3", api.OK}, {"len(u)", "0", api.OK}, {"len(full)", "16", api.OK}, {`len(" a ")`, "3", api.OK}, {"len(\"ten bytes!\")", "10", api.OK},
		{"count(l)", "2", api.OK}, {"count(e)", "0", api.OK}, {"count([nil])", "1", api.OK}, {"count(n)", "1", api.OK}, {"count([[1, 2], []])", "2", api.OK}, {"count([1, 2, 3, 4, 5, 6, 7, 8])", "8", api.OK},
	})
	nulls(t, "len", "", "t, t", "t, nil", "t, t, t", "l", "e", "1", "nil", "yes", "[t]")
	nulls(t, "count", "", "l, l", "l, nil", "1, 2, 3", "t", "u", "1", "nil", "yes")
}

func TestHas(t *testing.T) {
	asked(t, []ask{
		{"has(l, 2.50)", "true", api.OK}, {"has(l, 1)", "true", api.OK}, {"has(l, 2)", "false", api.OK}, {`has(l, "1")`, "false", api.OK}, {"has(l, nil)", "false", api.OK}, {"has(l, l)", "false", api.OK},
		{"has(e, nil)", "false", api.OK}, {"has(e, e)", "false", api.OK}, {"has([nil], nil)", "true", api.OK}, {"has([nil], none)", "true", api.OK}, {"has([false], nil)", "false", api.OK}, {"has([1, true], yes)", "true", api.OK}, {`has(["a", t], t)`, "true", api.OK}, {`has([t], "ab")`, "false", api.OK},
		{"has(n, [1])", "true", api.OK}, {"has(n, 1)", "false", api.OK}, {"has([e], e)", "true", api.OK}, {"has([l, e], [1, 2.5])", "true", api.OK}, {"has([1, 2, 3, 4, 5, 6, 7, 8], 8)", "true", api.OK}, {"has([1, 2, 3, 4, 5, 6, 7, 8], 9)", "false", api.OK},
	})
	nulls(t, "has", "", "l", "l, 1, 1", "l, 1, nil", "1, l", "t, t", "t, u", "nil, nil", "yes, yes", "1, 1")
}

func TestCat(t *testing.T) {
	asked(t, []ask{
		{"cat(t)", `"abc"`, api.OK}, {"cat(u)", `""`, api.OK}, {"cat(u, u)", `""`, api.OK}, {`cat(t, "", "d")`, `"abcd"`, api.OK}, {`cat("d", t, "e")`, `"dabce"`, api.OK}, {"cat(t, t, t, t, t)", `"abcabcabcabcabc"`, api.OK}, {`cat(t, t, t, t, t, "d")`, `"abcabcabcabcabcd"`, api.OK},
		{"cat(full)", `"sixteen bytes xx"`, api.OK}, {"cat(full, u)", `"sixteen bytes xx"`, api.OK}, {"cat(u, u, full, u)", `"sixteen bytes xx"`, api.OK},
		{`cat(full, "a")`, "null", api.ErrOver}, {`cat("a", full)`, "null", api.ErrOver}, {"cat(t, t, t, t, t, t)", "null", api.ErrOver}, {`cat(t, t, t, t, t, "d", "e")`, "null", api.ErrOver}, {"cat(full, full, full)", "null", api.ErrOver}, {`cat(full, "a", u)`, "null", api.ErrOver},
	})
	nulls(t, "cat", "", "1", "nil", "yes", "l", "[t, t]", "e", "t, 1", "1, t", "t, nil", "nil, t", "t, t, l", "t, [t]")
	// One that is no Text, ahead of too many bytes: it is not a cat of Texts at all.
	nulls(t, "cat", "full, full, 1", "1, full, full", "full, nil, full", "full, full, full, [t]")
}

func TestCatOfMany(t *testing.T) {
	for n := range 40 {
		kids := make([]api.Expr, n)
		for i := range kids {
			kids[i] = xtxt("z")
		}
		want, e := "\""+strings.Repeat("z", n)+"\"", api.OK
		if n == 0 {
			want = "null"
		}
		if n > api.MaxText {
			want, e = "null", api.ErrOver
		}
		is(t, call("cat", kids...), nil, want, e)
	}
}

func TestMinAndMax(t *testing.T) {
	asked(t, []ask{
		{"min(3, 1, 2)", "1", api.OK}, {"max(3, 1, 2)", "3", api.OK}, {"min(1, 2, 3)", "1", api.OK}, {"max(1, 2, 3)", "3", api.OK}, {"min(3, 2, 1)", "1", api.OK}, {"max(2, 3, 1)", "3", api.OK}, {"min(x)", "5", api.OK}, {"max(x)", "5", api.OK}, {"min(-x)", "-5", api.OK}, {"max(-x)", "-5", api.OK}, {"min(h, h)", "2.5", api.OK}, {"max(h, h)", "2.5", api.OK},
		{"min(l)", "1", api.OK}, {"max(l)", "2.5", api.OK}, {"min([3, -1, 2])", "-1", api.OK}, {"max([-3, -1, -2])", "-1", api.OK}, {"min([x])", "5", api.OK}, {"max([x])", "5", api.OK}, {"min(10, 9.5)", "9.5", api.OK}, {"max(0.5, 0.45)", "0.5", api.OK}, {"min(0.5, 0.45)", "0.45", api.OK}, {"min(big, -big)", "-1000000000", api.OK}, {"max(-big, big)", "1000000000", api.OK}, {"min(1, 2)", "1", api.OK}, {"max(5, 0)", "5", api.OK}, {"max(-5, -6)", "-5", api.OK}, {"min(5, 6)", "5", api.OK},
		{"max(1, 2, 3, 4, 5, 6, 7, 8, 9, 10)", "10", api.OK}, {"min(10, 9, 8, 7, 6, 5, 4, 3, 2, 1)", "1", api.OK},
	})
	for _, f := range []string{"min", "max"} {
		nulls(t, f, "", "[]", "e", "1, t", "t, 1", "l, 1", "1, l", "l, l", "e, e", "e, 1", "t", "nil", "yes", "nil, 1", "1, nil", "m", "n", "[nil]", "[1, nil]", "[l]", "[e]", "[t]", "t, u", "no, yes")
	}
}

func TestSum(t *testing.T) {
	asked(t, []ask{
		{"sum([])", "0", api.OK}, {"sum(e)", "0", api.OK}, {"sum(1)", "1", api.OK}, {"sum(1, 2.5)", "3.5", api.OK}, {"sum(l)", "3.5", api.OK}, {"sum([1, 2, 3])", "6", api.OK}, {"sum(-1, 1)", "0", api.OK}, {"sum(1, 2, 3, 4, 5, 6, 7, 8, 9, 10)", "55", api.OK}, {"sum([x])", "5", api.OK},
		{"sum(big, 1, -1)", "null", api.ErrOver}, {"sum(big, -1, 1)", "1000000000", api.OK}, {"sum(1, big, -1)", "null", api.ErrOver}, {"sum(-1, big, 1)", "1000000000", api.OK}, {"sum([big, 1, -1])", "null", api.ErrOver}, {"sum([big, -1, 1])", "1000000000", api.OK}, {"sum(-big, -1, 1)", "null", api.ErrOver}, {"sum(big, big)", "null", api.ErrOver}, {"sum(1, -1, big, 1)", "null", api.ErrOver}, {"sum(big)", "1000000000", api.OK}, {"sum(-big)", "-1000000000", api.OK},
		// What is rounded on the way stays so.
		{"sum(123456789, 0.5, 0.5)", "123456790", api.OK}, {"sum(0.5, 0.5, 123456789)", "123456790", api.OK}, {"sum(big, 0.5, 0.5)", "1000000000", api.OK}, {"sum(0.5, 0.5, big)", "null", api.ErrOver}, {"sum(123456788, 0.4, 0.4)", "123456788", api.OK}, {"sum(0.4, 0.4, 123456788)", "123456789", api.OK}, {"sum(999999999, 0.4, 0.4)", "999999999", api.OK}, {"sum(0.4, 0.4, 999999999)", "1000000000", api.OK},
	})
	nulls(t, "sum", "", "1, t", "t, 1", "l, 1", "1, l", "l, l", "e, e", "e, 1", "t", "u", "nil", "yes", "nil, 1", "1, nil", "m", "n", "[nil]", "[1, nil]", "[e]", "t, t")
	// One that is no Num, ahead of what is too great: it is not a sum of Nums at all.
	nulls(t, "sum", "big, big, t", "big, 1, nil", "[big, big, t]", "t, big, big", "big, big, l")
}

func TestCallsOfNoSuchName(t *testing.T) {
	for _, f := range []string{"", "f", "x", "l", "Abs", "SUM", "abs ", " abs", "sums", "su", "and", "or", "if", "in", "+", "<", "=", "avg", "length", "floor(", "\x00", "\xff", "mod\x00", strings.Repeat("sum", 1<<16)} {
		for _, kids := range [][]api.Expr{nil, {xnum(1, 0)}, {xnum(1, 0), xnum(2, 0)}, {name("l")}, {name("t")}, {name("yes")}, {name("l"), xnum(1, 0)}, {xnum(1, 0), xnum(2, 0), xnum(3, 0)}} {
			is(t, call(f, kids...), file(), "null", api.OK)
			is(t, call(f, append(kids, over())...), file(), "null", api.ErrOver)
			is(t, call(f, append(kids, wrong())...), file(), "null", api.ErrArg)
		}
	}
}

// Calls of as many as they take, within one another and within all else.
func TestCallsWithinOthers(t *testing.T) {
	asked(t, []ask{
		{"sum(abs(-1), floor(2.5), ceil(2.5), mod(7, 3), len(t), count(l))", "12", api.OK}, {"max(sum(l), min(l))", "3.5", api.OK}, {"not(has([cat(t, t)], t + t))", "false", api.OK}, {"if has(l, 1) then len(cat(t, t)) else 0", "6", api.OK}, {"[sum(l), max(e)]", "[3.5, null]", api.OK}, {"-count(l) in [-2..0]", "true", api.OK}, {"sum(l) / count(l)", "1.75", api.OK}, {"abs(nil)", "null", api.OK}, {"sum(cat(full, full))", "null", api.ErrOver}, {"count([sum(big, big)])", "null", api.ErrOver},
	})
}
