package eval_test

import (
	"strings"
	"testing"

	"dossier/api"
)

func TestPlus(t *testing.T) {
	asked(t, []ask{
		{"1 + 2", "3", api.OK}, {"x + 1", "6", api.OK}, {"h + h", "5", api.OK}, {"x + -h", "2.5", api.OK}, {"0.5 + 0.25", "0.75", api.OK},
		{"big + 1", "null", api.ErrOver}, {"big + 0.5", "1000000000", api.OK}, {"big + 0.6", "null", api.ErrOver}, {"-big + -1", "null", api.ErrOver}, {"big + -1", "999999999", api.OK}, {"99999.9999 + 0.0007", "100000.001", api.OK}, {"123456789 + 0.5", "123456790", api.OK},
		{`t + "d"`, `"abcd"`, api.OK}, {`"d" + t`, `"dabc"`, api.OK}, {"u + u", `""`, api.OK}, {"full + u", `"sixteen bytes xx"`, api.OK}, {"u + full", `"sixteen bytes xx"`, api.OK},
		{`full + "a"`, "null", api.ErrOver}, {`"a" + full`, "null", api.ErrOver}, {"full + full", "null", api.ErrOver}, {`"12345678" + "12345678"`, `"1234567812345678"`, api.OK}, {`"123456789" + "12345678"`, "null", api.ErrOver}, {`"12345678" + "123456789"`, "null", api.ErrOver},
		{"t + 1", "null", api.OK}, {"1 + t", "null", api.OK}, {"full + x", "null", api.OK}, {"nil + 1", "null", api.OK}, {"1 + nil", "null", api.OK}, {"nil + nil", "null", api.OK}, {"yes + yes", "null", api.OK}, {"l + l", "null", api.OK}, {"l + 1", "null", api.OK}, {"t + l", "null", api.OK},
	})
}

func TestMinus(t *testing.T) {
	asked(t, []ask{
		{"3 - 2", "1", api.OK}, {"2 - 3", "-1", api.OK}, {"1 - 0.0001", "0.9999", api.OK}, {"h - h", "0", api.OK}, {"1 - 2 - 3", "-4", api.OK},
		{"-big - 1", "null", api.ErrOver}, {"big - -1", "null", api.ErrOver}, {"-big - 0.5", "-1000000000", api.OK}, {"big - big", "0", api.OK},
		{"t - t", "null", api.OK}, {"t - u", "null", api.OK}, {"x - t", "null", api.OK}, {"t - x", "null", api.OK}, {"nil - x", "null", api.OK}, {"x - nil", "null", api.OK}, {"l - l", "null", api.OK}, {"yes - no", "null", api.OK}, {"full - full", "null", api.OK},
	})
}

func TestTimes(t *testing.T) {
	asked(t, []ask{
		{"6 * 7", "42", api.OK}, {"h * h", "6.25", api.OK}, {"-h * 4", "-10", api.OK}, {"0.0003 * 0.5", "0.0002", api.OK}, {"0 * big", "0", api.OK}, {"1 + 2 * 3", "7", api.OK},
		{"big * big", "null", api.ErrOver}, {"big * 2", "null", api.ErrOver}, {"-big * big", "null", api.ErrOver}, {"31622 * 31622", "999950884", api.OK}, {"31623 * 31623", "null", api.ErrOver}, {"big * 0.0001", "100000", api.OK},
		{"t * t", "null", api.OK}, {"t * 2", "null", api.OK}, {"2 * t", "null", api.OK}, {"nil * 0", "null", api.OK}, {"l * 1", "null", api.OK}, {"yes * yes", "null", api.OK}, {"full * full", "null", api.OK},
	})
}

func TestBy(t *testing.T) {
	asked(t, []ask{
		{"sum([1, 2, 3]) / 4", "1.5", api.OK}, {"1 / 3", "0.3333", api.OK}, {"-2 / 3", "-0.6667", api.OK}, {"1 / 20000", "0", api.OK}, {"3 / 20000", "0.0002", api.OK}, {"0 / 5", "0", api.OK}, {"2 / 3 * 3", "2.0001", api.OK},
		{"x / 0", "null", api.OK}, {"0 / 0", "null", api.OK}, {"big / 0", "null", api.OK}, {"x / (h - h)", "null", api.OK}, {"x / -0", "null", api.OK}, {"-x / 0.0", "null", api.OK},
		{"big / 0.0001", "null", api.ErrOver}, {"-big / 0.9", "null", api.ErrOver}, {"big / 1", "1000000000", api.OK}, {"big / 0.5", "null", api.ErrOver}, {"0.0001 / big", "0", api.OK},
		{"x / nil", "null", api.OK}, {"nil / x", "null", api.OK}, {"t / t", "null", api.OK}, {"t / 0", "null", api.OK}, {"0 / t", "null", api.OK}, {"l / l", "null", api.OK}, {"yes / yes", "null", api.OK}, {"x / u", "null", api.OK},
	})
}

func TestAndOr(t *testing.T) {
	others := []string{"nil", "none", "x", "0", "t", "u", `"true"`, "l", "e", "[true]", "1"}
	var all []ask
	add := func(s, want string) { all = append(all, ask{s, want, api.OK}) }
	for _, o := range others {
		add("true and "+o, "null")
		add(o+" and true", "null")
		add("false and "+o, "false")
		add(o+" and false", "false")
		add("true or "+o, "true")
		add(o+" or true", "true")
		add("false or "+o, "null")
		add(o+" or false", "null")
		for _, p := range others {
			add(o+" and "+p, "null")
			add(o+" or "+p, "null")
		}
	}
	for _, x := range [][4]string{{"false", "false", "false", "false"}, {"false", "true", "false", "true"}, {"true", "false", "false", "true"}, {"true", "true", "true", "true"}} {
		add(x[0]+" and "+x[1], x[2])
		add(x[0]+" or "+x[1], x[3])
	}
	asked(t, all)
	// Both kids, even where one would do.
	asked(t, []ask{{"false and big * big", "null", api.ErrOver}, {"true or big * big", "null", api.ErrOver}, {"big * big and false", "null", api.ErrOver}, {"big * big or true", "null", api.ErrOver}})
}

func TestRelations(t *testing.T) {
	asked(t, []ask{
		{"1 < 2", "true", api.OK}, {"2 < 2", "false", api.OK}, {"2 <= 2", "true", api.OK}, {"2 <= 1", "false", api.OK}, {"2 > 2", "false", api.OK}, {"2 > 1", "true", api.OK}, {"2 >= 2", "true", api.OK}, {"1 >= 2", "false", api.OK},
		{"1 = 1.0", "true", api.OK}, {"1 != 1.0", "false", api.OK}, {`1 = "1"`, "false", api.OK}, {`1 != "1"`, "true", api.OK}, {"nil = none", "true", api.OK}, {"nil != none", "false", api.OK}, {"l = [1, 2.5]", "true", api.OK}, {"l != [1, 2.5]", "false", api.OK}, {"l = [1]", "false", api.OK}, {"e = []", "true", api.OK}, {"yes = no", "false", api.OK}, {"false = nil", "false", api.OK},
		{`"a" < "b"`, "true", api.OK}, {`"a" < "aa"`, "true", api.OK}, {`"b" <= "aa"`, "false", api.OK}, {`"10" < "9"`, "true", api.OK}, {"9.5 < 10", "true", api.OK}, {"-2 < -1.5", "true", api.OK}, {`"" < " "`, "true", api.OK},
		{`1 < "b"`, "null", api.OK}, {`"b" > 1`, "null", api.OK}, {"true < false", "null", api.OK}, {"no <= no", "null", api.OK}, {"nil >= nil", "null", api.OK}, {"nil > 1", "null", api.OK}, {"l < l", "null", api.OK}, {"e <= l", "null", api.OK},
	})
}

func TestOtherOperators(t *testing.T) {
	l := []string{"", "?", "==", "<>", "AND", "Or", "not", "+ ", " +", "++", "%", "mod", "in", "=<", "=>", "! =", "\x00", "\xff", "\u2264", strings.Repeat("+", 1<<16)}
	for _, op := range l {
		for _, k := range []string{"x", "t", "yes", "nil", "l"} {
			is(t, bin(op, name(k), name(k)), file(), "null", api.OK)
		}
		is(t, bin(op, xnum(1, 0), over()), nil, "null", api.ErrOver)
	}
}

func TestNeg(t *testing.T) {
	asked(t, []ask{
		{"-x", "-5", api.OK}, {"-h", "-2.5", api.OK}, {"--h", "2.5", api.OK}, {"-0", "0", api.OK}, {"-big", "-1000000000", api.OK}, {"--big", "1000000000", api.OK}, {"-99999.9999", "-99999.9999", api.OK},
		{"-t", "null", api.OK}, {"-u", "null", api.OK}, {"-nil", "null", api.OK}, {"-yes", "null", api.OK}, {"-l", "null", api.OK}, {"-e", "null", api.OK}, {"-(big * big)", "null", api.ErrOver},
	})
	is(t, neg(xnum(-api.MaxM, 0)), nil, "1000000000", api.OK)
	is(t, neg(xnum(-1, 4)), nil, "0.0001", api.OK)
}

func TestIf(t *testing.T) {
	asked(t, []ask{
		{"if true then 1 else 2", "1", api.OK}, {"if false then 1 else 2", "2", api.OK}, {"if x > 4 then t else l", `"abc"`, api.OK}, {"if x < 4 then t else l", "[1, 2.5]", api.OK},
		{"if nil then 1 else 2", "2", api.OK}, {"if none then 1 else 2", "2", api.OK}, {"if 1 then 1 else 2", "2", api.OK}, {`if "true" then 1 else 2`, "2", api.OK}, {"if [true] then 1 else 2", "2", api.OK}, {"if e then 1 else 2", "2", api.OK}, {"if true and nil then 1 else 2", "2", api.OK},
		{"if true then 1 else big * big", "1", api.OK}, {"if false then big * big else 2", "2", api.OK}, {"if nil then big * big else 2", "2", api.OK}, {"if true then big * big else 2", "null", api.ErrOver}, {"if false then 1 else big * big", "null", api.ErrOver}, {"if big * big then 1 else 2", "null", api.ErrOver}, {"if big * big > 0 then 1 else 2", "null", api.ErrOver},
		{"if true then if false then 1 else 2 else 3", "2", api.OK}, {"if if true then false else true then 1 else 2", "2", api.OK},
	})
	for _, x := range []struct {
		kids []api.Expr
		want string
		e    api.Errno
	}{
		{[]api.Expr{xyes(true), xnum(1, 0), wrong()}, "1", api.OK}, {[]api.Expr{xyes(false), wrong(), xnum(2, 0)}, "2", api.OK}, {[]api.Expr{xnull(), wrong(), xnum(2, 0)}, "2", api.OK},
		{[]api.Expr{wrong(), over(), over()}, "null", api.ErrArg}, {[]api.Expr{over(), wrong(), wrong()}, "null", api.ErrOver}, {[]api.Expr{xyes(true), wrong(), over()}, "null", api.ErrArg}, {[]api.Expr{xyes(true), over(), wrong()}, "null", api.ErrOver}, {[]api.Expr{xyes(false), over(), wrong()}, "null", api.ErrArg}, {[]api.Expr{xnum(1, 0), wrong(), over()}, "null", api.ErrOver},
	} {
		is(t, choice(x.kids...), nil, x.want, x.e)
	}
}

func TestList(t *testing.T) {
	asked(t, []ask{
		{"[]", "[]", api.OK}, {"[1]", "[1]", api.OK}, {"[x, t]", `[5, "abc"]`, api.OK}, {"[nil, yes, no, h, u]", `[null, true, false, 2.5, ""]`, api.OK}, {"[1 + 1, -x]", "[2, -5]", api.OK},
		{"[1, 2, 3, 4, 5, 6, 7, 8]", "[1, 2, 3, 4, 5, 6, 7, 8]", api.OK}, {"[1, 2, 3, 4, 5, 6, 7, 8, 9]", "null", api.ErrOver}, {"[[1, 2, 3, 4, 5, 6, 7, 8, 9]]", "null", api.ErrOver}, {"[1, 2, 3, 4, 5, 6, 7, big * big]", "null", api.ErrOver},
		{"[[]]", "[[]]", api.OK}, {"[l]", "[[1, 2.5]]", api.OK}, {"[l, e, l]", "[[1, 2.5], [], [1, 2.5]]", api.OK}, {"[[x], [t]]", `[[5], ["abc"]]`, api.OK}, {"[[], 1, [2], []]", "[[], 1, [2], []]", api.OK},
		{"[[[]]]", "null", api.ErrOver}, {"[n]", "null", api.ErrOver}, {"[[e]]", "null", api.ErrOver}, {"[1, [2, [3]]]", "null", api.ErrOver}, {"[1, 2, [], [[]]]", "null", api.ErrOver}, {"[1, 2, 3, 4, 5, 6, 7, n]", "null", api.ErrOver}, {"n", "[[1]]", api.OK}, {"[[1], n]", "null", api.ErrOver},
		{"[if yes then l else n]", "[[1, 2.5]]", api.OK}, {"[if no then l else n]", "null", api.ErrOver}, {"count([[[]]])", "null", api.ErrOver}, {"[count([[]])]", "[1]", api.OK}, {"if true then 1 else [[[]]]", "1", api.OK},
	})
}

// All kids ahead of the number of elements: of nine, the last one's error is the answer.
func TestListOfKidsAheadOfTooMany(t *testing.T) {
	for n := range 20 {
		kids := make([]api.Expr, n)
		for i := range kids {
			kids[i] = xnum(1, 0)
		}
		if n <= api.MaxList {
			is(t, row(kids...), nil, "["+strings.TrimSuffix(strings.Repeat("1, ", n), ", ")+"]", api.OK)
		} else {
			is(t, row(kids...), nil, "null", api.ErrOver)
		}
		for i := range kids {
			kids[i] = wrong()
			is(t, row(kids...), nil, "null", api.ErrArg)
			kids[i] = row(row())
			is(t, row(kids...), nil, "null", api.ErrOver)
			kids[i] = xnum(1, 0)
		}
	}
	is(t, row(row(row(row())), wrong()), nil, "null", api.ErrOver)
	is(t, row(row(row()), wrong()), nil, "null", api.ErrArg)
}

func TestIn(t *testing.T) {
	asked(t, []ask{
		{"5 in [5..6]", "true", api.OK}, {"5 in (5..6]", "false", api.OK}, {"5 in [5..6)", "true", api.OK}, {"5 in (5..6)", "false", api.OK},
		{"6 in [5..6]", "true", api.OK}, {"6 in (5..6]", "true", api.OK}, {"6 in [5..6)", "false", api.OK}, {"6 in (5..6)", "false", api.OK},
		{"5.5 in [5..6]", "true", api.OK}, {"5.5 in (5..6]", "true", api.OK}, {"5.5 in [5..6)", "true", api.OK}, {"5.5 in (5..6)", "true", api.OK},
		{"4 in [5..6]", "false", api.OK}, {"7 in [5..6]", "false", api.OK}, {"4.9999 in (5..6)", "false", api.OK}, {"6.0001 in [5..6]", "false", api.OK},
		{"5 in [5..5]", "true", api.OK}, {"5 in (5..5]", "false", api.OK}, {"5 in [5..5)", "false", api.OK}, {"5 in (5..5)", "false", api.OK}, {"5 in [6..4]", "false", api.OK},
		{`t in ["abb".."abd"]`, "true", api.OK}, {`t in ["abc".."abd"]`, "true", api.OK}, {`t in ("abc".."abd"]`, "false", api.OK}, {`t in ["abb".."abc"]`, "true", api.OK}, {`t in ["abb".."abc")`, "false", api.OK}, {`t in ["b".."c"]`, "false", api.OK}, {`u in [u..u]`, "true", api.OK},
		{"x in [4..nil]", "null", api.OK}, {"x in [6..nil]", "false", api.OK}, {"x in [nil..6]", "null", api.OK}, {"x in [nil..4]", "false", api.OK}, {"x in [nil..nil]", "null", api.OK}, {"nil in [1..2]", "null", api.OK},
		{`x in ["a".."z"]`, "null", api.OK}, {`x in [1.."z"]`, "null", api.OK}, {`x in [6.."z"]`, "false", api.OK}, {`x in ["a"..4]`, "false", api.OK}, {"t in [1..9]", "null", api.OK}, {"yes in [no..yes]", "null", api.OK}, {"l in [e..l]", "null", api.OK}, {"nil in [nil..nil]", "null", api.OK},
		{"x in [big * big..1]", "null", api.ErrOver}, {"9 in [1..2 * big]", "null", api.ErrOver}, {"0 in [1..2 * big]", "null", api.ErrOver}, {"2 * big in [1..2]", "null", api.ErrOver},
	})
}

// places is each kind of expression that asks all its kids, made of three of them.
func places() []func(k [3]api.Expr) (api.Expr, int) {
	type place = func(k [3]api.Expr) (api.Expr, int)
	l := []place{
		func(k [3]api.Expr) (api.Expr, int) { return neg(k[0]), 1 },
		func(k [3]api.Expr) (api.Expr, int) { return row(k[0]), 1 },
		func(k [3]api.Expr) (api.Expr, int) { return row(k[:]...), 3 },
		func(k [3]api.Expr) (api.Expr, int) { return within(true, true, k[:]...), 3 },
		func(k [3]api.Expr) (api.Expr, int) { return within(false, false, k[:]...), 3 },
	}
	for _, op := range append(operators(), "?") {
		l = append(l, func(k [3]api.Expr) (api.Expr, int) { return bin(op, k[:2]...), 2 })
	}
	for _, f := range append(calls(), "f", "") {
		for n := 1; n <= 3; n++ {
			l = append(l, func(k [3]api.Expr) (api.Expr, int) { return call(f, k[:n]...), n })
		}
	}
	return l
}

// The first error from left to right is the answer, whatever stands at the other places.
func TestFirstErrorOfKids(t *testing.T) {
	others := []api.Expr{xnum(1, 0), xtxt("a"), xyes(false), xyes(true), xnull(), row(xnum(1, 0)), name("none")}
	for _, place := range places() {
		for _, o := range others {
			for i := range 3 {
				k := [3]api.Expr{o, o, o}
				k[i] = over()
				x, n := place(k)
				if i >= n {
					continue
				}
				is(t, x, nil, "null", api.ErrOver)
				is(t, row(o, x, wrong()), nil, "null", api.ErrOver)
				k[i] = wrong()
				x, _ = place(k)
				is(t, x, nil, "null", api.ErrArg)
				is(t, neg(choice(xyes(true), x, over())), nil, "null", api.ErrArg)
				for j := i + 1; j < n; j++ {
					k[i], k[j] = over(), wrong()
					x, _ = place(k)
					is(t, x, nil, "null", api.ErrOver)
					k[i], k[j] = wrong(), over()
					x, _ = place(k)
					is(t, x, nil, "null", api.ErrArg)
					k[j] = o
				}
			}
		}
	}
}
