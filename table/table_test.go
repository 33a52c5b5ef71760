package table_test

import (
	"fmt"
	"slices"
	"strings"
	"testing"

	"dossier/api"
	"dossier/show"
	"dossier/table"
	"dossier/val"
)

func null() api.Val             { return api.Val{} }
func yes(b bool) api.Val        { return api.Val{Kind: api.Bool, B: b} }
func num(m, s int) api.Val      { return api.Val{Kind: api.Num, D: api.Dec{M: m, S: s}} }
func txt(s string) api.Val      { return api.Val{Kind: api.Text, T: s} }
func list(l ...api.Val) api.Val { return api.Val{Kind: api.List, L: l} }

func rule(out api.Val, cells ...string) api.Rule { return api.Rule{Cells: cells, Out: out} }

// kinds is all Hits.
func kinds() []string { return []string{"U", "A", "P", "F", "R", "O", "+", "<", ">", "#"} }

// good is a table that may be, with something of each part.
func good() api.Table {
	return api.Table{
		Hit: "P", In: []string{"x", "y + 1"},
		Rules: []api.Rule{rule(num(1, 0), "-", "1"), rule(txt("a"), "not(1, 2)", "< x")},
		Order: []api.Val{txt("a"), num(1, 0)}, Has: true, Else: list(num(1, 0)),
	}
}

func told(x api.Table) string {
	s := fmt.Sprintf("%+q", []any{x.Hit, x.In, x.Rules, x.Order, x.Has, x.Else})
	return s[:min(len(s), 600)]
}

// may asks whether a table may be; of one that may not, the others answer ErrArg.
func may(t *testing.T, x api.Table, want bool) {
	t.Helper()
	if got := table.Is(x); got != want {
		t.Fatalf("Is(%s): %t", told(x), got)
	}
	if !want {
		errs(t, x, file(), api.ErrArg)
	}
}

// errs asks for the error of a table that is gone through.
func errs(t *testing.T, x api.Table, env []api.Bind, e api.Errno) {
	t.Helper()
	hits(t, x, env, nil, e)
	run(t, x, env, "null", e)
}

// hits asks for the rules that match.
func hits(t *testing.T, x api.Table, env []api.Bind, want []int, e api.Errno) {
	t.Helper()
	if got, err := table.Hits(x, env); !slices.Equal(got, want) || err != e {
		t.Fatalf("Hits(%s): %v, %v; not %v, %v", told(x), got, err, want, e)
	}
}

// run asks for what is decided, by its text. Beside an error that is Null.
func run(t *testing.T, x api.Table, env []api.Bind, want string, e api.Errno) {
	t.Helper()
	if got, err := table.Run(x, env); show.Val(got) != want || !val.Is(got) || err != e {
		t.Fatalf("Run(%s): %s, %v; not %s, %v", told(x), show.Val(got), err, want, e)
	}
}

// file is names of each Kind of values.
func file() []api.Bind {
	return []api.Bind{
		{Name: "x", V: num(5, 0)}, {Name: "y", V: num(25, 1)}, {Name: "t", V: txt("abc")}, {Name: "yes", V: yes(true)}, {Name: "nil", V: null()},
		{Name: "l", V: list(num(1, 0), txt("a"))}, {Name: "big", V: num(api.MaxM, 0)}, {Name: "x", V: num(9, 0)},
	}
}

// outs is values that a rule may say, edges among them.
func outs() []api.Val {
	return []api.Val{
		null(), yes(false), yes(true), num(0, 0), num(1, 0), num(-3, 0), num(25, 1), num(-1, 4), num(api.MaxM, 0), num(-api.MaxM, 0), num(999999999, 4),
		txt(""), txt(" "), txt("~"), txt("a"), txt("sixteen bytes xx"),
		{L: []api.Val{}}, {Kind: api.Num, L: make([]api.Val, 0, 4)},
	}
}

// lists is lists that may be.
func lists() []api.Val {
	return []api.Val{
		list(), {Kind: api.List, L: []api.Val{}}, list(null()), list(num(1, 0), txt("a")), list(list()), list(list(num(1, 0)), yes(true)),
		list(make([]api.Val, api.MaxList)...), list(list(make([]api.Val, api.MaxList)...)),
	}
}

// unsound is values that may not be.
func unsound() []api.Val {
	deep := list()
	for range 1 << 10 {
		deep = list(deep)
	}
	circle := list(null())
	circle.L[0] = circle
	return []api.Val{
		{Kind: -1}, {Kind: 5}, {Kind: 1 << 40}, {B: true}, {T: "x"}, {L: make([]api.Val, 1)}, {D: api.Dec{S: 1}}, {Kind: api.Num, T: "x"}, {Kind: api.Text, B: true},
		num(10, 1), num(api.MaxM+1, 0), num(-api.MaxM-1, 0), num(1, 5), num(1, -1), num(-1<<63, 0),
		txt("\""), txt("\x1f"), txt("\x7f"), txt("\xff"), txt("seventeen bytes x"), txt(strings.Repeat("x", 1<<20)),
		list(make([]api.Val, api.MaxList+1)...), list(num(10, 1)), list(list(list())), deep, circle,
	}
}

func TestIsOfTables(t *testing.T) {
	may(t, good(), true)
	may(t, api.Table{}, false)
	may(t, api.Table{Hit: "U", In: []string{"x"}}, true)
	may(t, api.Table{Hit: "#", In: []string{"1"}, Rules: []api.Rule{}, Order: []api.Val{}}, true)
	may(t, api.Table{Hit: "U", In: []string{"x"}, Rules: []api.Rule{{Cells: []string{"-"}}}}, true)
}

func TestIsOfHits(t *testing.T) {
	x := good()
	for n := range 256 {
		x.Hit = string([]byte{byte(n)})
		may(t, x, slices.Contains(kinds(), x.Hit))
	}
	for _, a := range kinds() {
		for _, b := range append(kinds(), " ", "\x00", "\xff") {
			x.Hit = a + b
			may(t, x, false)
			x.Hit = b + a
			may(t, x, false)
		}
		x.Hit = strings.Repeat(a, 1<<20)
		may(t, x, false)
	}
	for _, s := range []string{"", "UAPFRO+<>#", "APF", "U A", "<=", "≤", "first"} {
		x.Hit = s
		may(t, x, false)
	}
}

// exprs is expressions that can be Parsed, wrongExprs ones that can not.
func exprs() []string {
	return []string{
		"x", "1", "0.5", "-1", "1 + 2 * x", "null", "true", `""`, "[1, 2]", "(1)", "not(x)", "not", "if a then b else c", "x in [1..2)", " x ", "f(1, 2)",
		"((((((((1))))))))", "1000000000", strings.Repeat(" ", api.MaxSource-1) + "x",
	}
}

func wrongExprs() []string {
	return []string{
		"", " ", "x +", "-", "< 5", "1, 2", "[1..2]", "(1", "x y", "in", "1.", "!", "\x00", "\xff", "X", `"abc`, "(((((((((1)))))))))", "1000000001", "1234567890123456789",
		"abcdefghi", strings.Repeat(" ", api.MaxSource) + "x", strings.Repeat("1+", api.MaxToks/2) + "1", strings.Repeat("(", 1<<20),
	}
}

func TestIsOfIns(t *testing.T) {
	x := good()
	x.Rules = nil
	x.In = nil
	may(t, x, false)
	x.In = []string{}
	may(t, x, false)
	for n := 1; n <= 2*api.MaxIn; n++ {
		x.In = slices.Repeat([]string{"x"}, n)
		may(t, x, n <= 3)
		for at := range x.In {
			for _, s := range exprs() {
				x.In[at] = s
				may(t, x, n <= 3)
			}
			for _, s := range wrongExprs() {
				x.In[at] = s
				may(t, x, false)
			}
			x.In[at] = "x"
		}
	}
	x.In = make([]string, 1<<20)
	may(t, x, false)
}

func TestIsOfHowManyRules(t *testing.T) {
	x := good()
	for n := range 2 * api.MaxRules {
		x.Rules = slices.Repeat([]api.Rule{rule(num(1, 0), "-", "-")}, n)
		may(t, x, n <= 6)
	}
	x.Rules = slices.Repeat(good().Rules, 1<<16)
	may(t, x, false)
}

// At each rule each number of cells stands beside each number of Ins.
func TestIsOfHowManyCells(t *testing.T) {
	for ins := 1; ins <= 3; ins++ {
		x := good()
		x.In = slices.Repeat([]string{"x"}, ins)
		for rules := 1; rules <= 6; rules++ {
			x.Rules = nil
			for range rules {
				x.Rules = append(x.Rules, rule(num(1, 0), slices.Repeat([]string{"-"}, ins)...))
			}
			for at := range rules {
				was := x.Rules[at].Cells
				for n := range 6 {
					x.Rules[at].Cells = slices.Repeat([]string{"-"}, n)
					may(t, x, n == ins)
				}
				x.Rules[at].Cells = nil
				may(t, x, false)
				x.Rules[at].Cells = make([]string, 1<<20)
				may(t, x, false)
				x.Rules[at].Cells = was
			}
		}
	}
}

func TestIsOfCells(t *testing.T) {
	right := []string{"-", " - ", "not(1)", "not(1, < 2)", "< 5", "= 5", "1, 2", "[1..2)", "(1..x], > 9", "1, 2, 3, 4, 5, 6", "not(1, 2, 3, 4, 5, 6)", "[1, 2]"}
	wrong := []string{"", " ", "- -", "-, -", "-, 1", "not()", "not(-)", "not(1", "not(1), 2", "<", "< < 5", "[1..2", "1..2", "1, 2, 3, 4, 5, 6, 7", "not(1, 2, 3, 4, 5, 6, 7)", ","}
	for _, s := range exprs() {
		if s != "not(x)" {
			right = append(right, s, "!= "+strings.TrimSpace(s))
		}
	}
	for _, s := range wrongExprs() {
		if !slices.Contains([]string{"-", "< 5", "1, 2", "[1..2]"}, s) {
			wrong = append(wrong, s)
		}
	}
	for rules := 1; rules <= 6; rules++ {
		for at := range rules {
			for side := range 3 {
				x := good()
				x.In, x.Rules = slices.Repeat([]string{"x"}, 3), nil
				for range rules {
					x.Rules = append(x.Rules, rule(num(1, 0), "-", "-", "-"))
				}
				for _, s := range right {
					x.Rules[at].Cells[side] = s
					may(t, x, true)
				}
				for _, s := range wrong {
					x.Rules[at].Cells[side] = s
					may(t, x, false)
				}
			}
		}
	}
}

func TestIsOfOuts(t *testing.T) {
	for rules := 1; rules <= 6; rules++ {
		for at := range rules {
			x := good()
			x.Rules = slices.Repeat([]api.Rule{rule(num(1, 0), "-", "-")}, rules)
			for _, v := range outs() {
				x.Rules[at].Out = v
				may(t, x, true)
			}
			for _, v := range append(unsound(), lists()...) {
				x.Rules[at].Out = v
				may(t, x, false)
			}
		}
	}
}

// An Order is asked whatever the Hit.
func TestIsOfOrders(t *testing.T) {
	wrong := unsound()
	for _, hit := range kinds() {
		x := good()
		x.Hit = hit
		for n := range 2 * api.MaxList {
			x.Order = nil
			for i := range n {
				x.Order = append(x.Order, num(i, 0))
			}
			may(t, x, n <= 8)
			for at := range min(n, 8) {
				for _, v := range append(outs(), lists()...) {
					x.Order[at] = v
					others := slices.Delete(slices.Clone(x.Order), at, at+1)
					may(t, x, n <= 8 && !slices.ContainsFunc(others, func(w api.Val) bool { return show.Val(v) == show.Val(w) }))
				}
				for _, v := range wrong {
					x.Order[at] = v
					may(t, x, false)
				}
				x.Order[at] = num(at, 0)
			}
		}
	}
	x := good()
	x.Order = make([]api.Val, 1<<20)
	may(t, x, false)
}

// Each value stands beside each other one, at each two places.
func TestIsOfOrdersWithTwoThatAreEqual(t *testing.T) {
	all := append(append(outs(), lists()...), txt("1"), txt("A"), list(txt("a"), num(1, 0)), list(num(1, 0)), list(num(1, 0), txt("a"), null()), list(null(), null()))
	x := good()
	for i, a := range all {
		for k, b := range all {
			same := show.Val(a) == show.Val(b)
			if i == k && !same {
				t.Fatal("a value has two texts")
			}
			x.Order = []api.Val{a, b}
			may(t, x, !same)
			for from := range 3 {
				for to := from + 1; to < 4; to++ {
					x.Order = []api.Val{num(11, 0), num(12, 0), num(13, 0), num(14, 0)}
					x.Order[from], x.Order[to] = a, b
					may(t, x, !same)
				}
			}
		}
	}
	// the same number with another power of ten may not be at all
	x.Order = []api.Val{num(1, 0), num(10, 1)}
	may(t, x, false)
	x.Order = []api.Val{num(1, 0), num(1, 1), num(1, 2), num(1, 3), num(1, 4), num(10, 0), num(100, 0)}
	may(t, x, true)
	x.Order = append(x.Order, num(1, 3))
	may(t, x, false)
}

// An Else is asked whatever the Hit.
func TestIsOfElses(t *testing.T) {
	for _, hit := range kinds() {
		x := good()
		x.Hit = hit
		for _, v := range append(outs(), lists()...) {
			x.Has, x.Else = true, v
			may(t, x, true)
			x.Has = false
			may(t, x, v.Kind == api.Null)
		}
		for _, v := range unsound() {
			x.Has, x.Else = true, v
			may(t, x, false)
			x.Has = false
			may(t, x, false)
		}
	}
}

// A table may be if, and only if, all its parts may: all of them, one of them
// not, any of them not.
func TestIsOfAllParts(t *testing.T) {
	spoil := []func(x *api.Table){
		func(x *api.Table) { x.Hit = "u" }, func(x *api.Table) { x.In[1] = "y +" }, func(x *api.Table) { x.In[0] = "" }, func(x *api.Table) { x.Rules[0].Cells[1] = "<" },
		func(x *api.Table) { x.Rules[1].Cells[0] = "" }, func(x *api.Table) { x.Rules[0].Out = list() }, func(x *api.Table) { x.Rules[1].Out = num(10, 1) },
		func(x *api.Table) { x.Order[1] = txt("a") }, func(x *api.Table) { x.Order[0] = null(); x.Order[0].B = true }, func(x *api.Table) { x.Has = false },
	}
	for _, hit := range kinds() {
		for n := range 1 << len(spoil) {
			x := good()
			x.Hit = hit
			for i, f := range spoil {
				if n>>i&1 > 0 {
					f(&x)
				}
			}
			may(t, x, n == 0)
		}
	}
}
