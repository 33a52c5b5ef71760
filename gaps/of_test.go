package gaps_test

import (
	"fmt"
	"strconv"
	"strings"
	"testing"

	"dossier/api"
	"dossier/gaps"
	"dossier/table"
)

// sheet is a table of rules of so many cells each.
func sheet(width int, cells ...string) api.Table {
	t := api.Table{Hit: "F", In: []string{"x", "y", "z"}[:width]}
	for i := 0; i+width <= len(cells); i += width {
		t.Rules = append(t.Rules, api.Rule{Cells: cells[i : i+width]})
	}
	return t
}

func of(t *testing.T, x api.Table, want ...api.Box) {
	t.Helper()
	if l, ok := gaps.Of(x); !ok || fmt.Sprint(l) != fmt.Sprint(want) {
		t.Errorf("%v: %v, %v; not %v", x.Rules, l, ok, want)
	}
}

func noBoxes(t *testing.T, x api.Table) {
	t.Helper()
	if l, ok := gaps.Of(x); ok || len(l) != 0 {
		t.Errorf("%.300v: %v, %v", x, l, ok)
	}
}

func TestOfEachKindOfCell(t *testing.T) {
	for _, x := range []struct {
		cell   string
		lo, hi int
	}{
		{"-", 0, most}, {" - ", 0, most},
		{"5", 5, 5}, {"= 5", 5, 5}, {"=5", 5, 5}, {"0", 0, 0}, {"= 0", 0, 0}, {"1000", most, most}, {"= 1000", most, most}, {" 005 ", 5, 5}, {"0000000000001000", most, most},
		{"< 5", 0, 4}, {"<5", 0, 4}, {"< 1", 0, 0}, {"< 1000", 0, most - 1}, {"<= 5", 0, 5}, {"<= 0", 0, 0}, {"<= 1000", 0, most},
		{"> 5", 6, most}, {"> 0", 1, most}, {"> 999", most, most}, {">= 5", 5, most}, {">= 0", 0, most}, {">= 1000", most, most},
		{"[1..5]", 1, 5}, {"(1..5]", 2, 5}, {"[1..5)", 1, 4}, {"(1..5)", 2, 4}, {" [ 1 .. 5 ) ", 1, 4},
		{"[0..1000]", 0, most}, {"(0..1000]", 1, most}, {"[0..1000)", 0, most - 1}, {"(0..1000)", 1, most - 1},
		{"[5..5]", 5, 5}, {"(4..5]", 5, 5}, {"[5..6)", 5, 5}, {"(4..6)", 5, 5}, {"[0..0]", 0, 0}, {"[0..1)", 0, 0}, {"[1000..1000]", most, most}, {"(999..1000]", most, most},
		{"(5)", 5, 5}, {"((5))", 5, 5}, {"(((((((5)))))))", 5, 5}, {"((((((((5))))))))", 5, 5}, {" ( 5 ) ", 5, 5}, {"= (5)", 5, 5}, {"=((5))", 5, 5}, {"(5.0)", 5, 5}, {"(0)", 0, 0}, {"(1000)", most, most},
		{"< (5)", 0, 4}, {"<= (5)", 0, 5}, {"> (5)", 6, most}, {">= (5)", 5, most}, {"<((1))", 0, 0}, {"> (((999)))", most, most},
		{"[(1)..5]", 1, 5}, {"[1..(5)]", 1, 5}, {"((1)..5]", 2, 5}, {"(1..(5))", 2, 4}, {"[(1)..(5)]", 1, 5}, {"[((1))..5)", 1, 4}, {"[1..((5)))", 1, 4}, {"((1)..((5)))", 2, 4}, {"(((0))..(((1000)))]", 1, most},
		{"2.0", 2, 2}, {"= 2.00", 2, 2}, {"< 1.0000", 0, 0}, {"0.0", 0, 0}, {"1000.0", most, most}, {"> 999.00000000", most, most}, {"[1.0..2.0]", 1, 2}, {"(1.0..3.0)", 2, 2},
	} {
		of(t, sheet(1, x.cell), box(x.lo, x.hi))
	}
}

// others is cells of tables that may be that give no side.
func others() []string {
	return []string{
		// above MaxPoint, below nought, not whole
		"1001", "= 1001", "< 1001", "<= 1001", "> 1001", ">= 1001", "[0..1001]", "[0..1001)", "[1001..1002]", "(1001..1]", "1000000000", "< 1000000000", "[5..1000000000]",
		"-1", "= -1", "> -1", ">= -1", "[-1..5]", "(-1..5]", "[-2..-1]", "[0..-1]", "-0", "= -0", "> -0", ">= -0", "[-0..5]", "[0..-0]", "[0..--5]", "--5",
		"1.5", "= 1.5", "< 1.5", "> 0.5", ">= 0.1", "<= 0.0001", "[0.5..5]", "(0.5..5)", "[1..5.5]", "1000.5", "< 999.9", "0.0001", "1.0001",
		// nothing of 0 to MaxPoint
		"< 0", "<0.0", "> 1000", "> 1000.0", "[5..4]", "(5..5]", "[5..5)", "(5..5)", "(5..6)", "(0..0]", "[0..0)", "(0..1)", "(1000..1000]", "(999..1000)", "[1000..0]", "(1000..0)", "(5..4)",
		// other tests
		"1, 2", "5, 5", "< 5, >= 5", "[0..4], [5..9]", "1, 2, 3, 4, 5, 6", "not(5)", "not(-5)", "not(not)", "not([1..5])", "not(1, 2)", "not(> 5)", "!= 5", "!= 0", "!= 1001",
		// other expressions
		"x", "= x", "< x", "[1..x]", "[x..5]", "[x..y]", "zz", "\"a\"", "= \"5\"", "< \"5\"", "\"\"", "\"(\"", "[\"a\"..\"b\"]", "null", "= null", "> null", "true", "false", "= true", "[null..5]", "[0..true]",
		"min(5)", "= sum(1, 2)", "[min(1)..5]", "[1..max(5)]", "count()", "not (5)", "1 + 1", "2 * 3", "4 / 2", "5 - 0", "< 5 + 0", "[1 + 0..5]", "[1..5 + 0]", "5 = 5", "5 < 6", "= 5 in [1..9]", "5 in [1..9]",
		"5 and 5", "5 or 5", "if true then 5 else 5", "< if true then 5 else 5", "[5]", "= [5]", "[]", "[1, 2]", "[[1]..5]", "[1..[5]]",
		// a number in brackets that is none of 0 to MaxPoint, or covers nothing, or is a part
		"(1001)", "(0.5)", "(-5)", "-(5)", "(-0)", "= (1001)", "< (0)", "> (1000)", "[(1)..1001]", "[(0.5)..(5)]", "[(-1)..5]", "((1)..(2))", "((5)..5]", "[(5)..(4)]", "(5) + 0", "0 + (5)", "(2 + 3)", "(5 + 0)", "([5])", "(5), (6)", "!= (5)", "not((5))", "(x)", "(null)", "(\"5\")", "((5) in [1..9])",
	}
}

func TestOfOtherCells(t *testing.T) {
	for _, c := range others() {
		x := sheet(1, c)
		if !table.Is(x) {
			t.Errorf("%s: a table with it may not be", c)
		}
		noBoxes(t, x)
	}
}

// One cell anywhere that gives no side is enough.
func TestOfOneOtherCellAnywhere(t *testing.T) {
	for _, c := range others() {
		for width := 1; width <= api.MaxIn; width++ {
			for at := range width * 3 {
				cells := strings.Split(strings.Repeat("5;", width*3-1)+"5", ";")
				cells[at] = c
				noBoxes(t, sheet(width, cells...))
			}
		}
	}
}

// Rules in order, cells in order.
func TestOfRulesInOrder(t *testing.T) {
	of(t, sheet(1))
	of(t, sheet(3))
	of(t, api.Table{Hit: "U", In: []string{"1 + 1"}, Rules: []api.Rule{}})
	of(t, sheet(1, "1", "< 3", "1"), box(1, 1), box(0, 2), box(1, 1))
	of(t, sheet(2, "1", "-", "[3..4]", "> 7"), box(1, 1, 0, most), box(3, 4, 8, most))
	of(t, sheet(3, "1", "2", "3", "6", "5", "4"), box(1, 1, 2, 2, 3, 3), box(6, 6, 5, 5, 4, 4))
	of(t, sheet(3, "-", "-", "-"), sides(3, 0, most))
	cells, want := []string(nil), []api.Box(nil)
	for n := range api.MaxRules {
		cells = append(cells, strconv.Itoa(n), "> "+strconv.Itoa(n))
		want = append(want, box(n, n, n+1, most))
	}
	of(t, sheet(2, cells...), want...)
}

// What else a table has tells nothing.
func TestOfAllElseOfTables(t *testing.T) {
	for _, hit := range strings.Split("UAPFRO+<>#", "") {
		for _, in := range []string{"x", "1", "x + 1", "null", "[x]"} {
			for _, out := range []api.Val{{}, {Kind: api.Num, D: api.Dec{M: 1}}, {Kind: api.Text, T: "a"}} {
				x := api.Table{Hit: hit, In: []string{in}, Rules: []api.Rule{{Cells: []string{"< 5"}, Out: out}}, Order: []api.Val{out}, Has: true, Else: out}
				of(t, x, box(0, 4))
				x.Rules[0].Cells[0] = "< x"
				noBoxes(t, x)
			}
		}
	}
}

// Of a table that may not be nothing is said: it has no boxes.
func TestOfTablesThatMayNotBe(t *testing.T) {
	noBoxes(t, api.Table{})
	for _, c := range []string{"", " ", "5 +", "-, 5", "5,", "(5", "5)", "[1..5", "1..5", "not(", "not()", "not(-)", "< -", "<", "?", "\"", "10000000000000", "1, 2, 3, 4, 5, 6, 7", "[1..5]]", strings.Repeat("(", 9) + "5" + strings.Repeat(")", 9),
		strings.Repeat(" ", api.MaxSource) + "5", strings.Repeat("(", 1<<20), strings.Repeat("-", 1<<16) + "5", "\xff", "5\x00"} {
		noBoxes(t, sheet(1, c))
		noBoxes(t, sheet(2, "5", "5", "5", c))
	}
	for _, spoil := range []func(*api.Table){
		func(x *api.Table) { x.Hit = "" },
		func(x *api.Table) { x.Hit = "UA" },
		func(x *api.Table) { x.In = nil },
		func(x *api.Table) { x.In = []string{"x"} },
		func(x *api.Table) { x.In = []string{"x", "y", "z"} },
		func(x *api.Table) { x.In = []string{"x", "+"} },
		func(x *api.Table) { x.Rules[1].Cells = nil },
		func(x *api.Table) { x.Rules[1].Cells = []string{"5"} },
		func(x *api.Table) { x.Rules[1].Cells = []string{"5", "5", "5"} },
		func(x *api.Table) { x.Rules[1].Out = api.Val{Kind: api.List} },
		func(x *api.Table) { x.Rules[1].Out = api.Val{Kind: -1} },
		func(x *api.Table) { x.Order = make([]api.Val, 2) },
		func(x *api.Table) { x.Else.Kind = api.Bool },
		func(x *api.Table) { x.Rules = make([]api.Rule, 1<<20) },
		func(x *api.Table) {
			x.Rules = append(x.Rules, x.Rules[0], x.Rules[0], x.Rules[0], x.Rules[0], x.Rules[0])
		},
	} {
		x := sheet(2, "5", "5", "5", "5")
		of(t, x, box(5, 5, 5, 5), box(5, 5, 5, 5))
		spoil(&x)
		noBoxes(t, x)
	}
	wide := api.Table{Hit: "U", In: []string{"x", "x", "x", "x"}, Rules: []api.Rule{{Cells: []string{"1", "1", "1", "1"}}}}
	noBoxes(t, wide)
}

// simple is all cells of a sign or a range, and one or two numbers.
func simple(numbers []string) []string {
	l := []string{"-"}
	for _, a := range numbers {
		for _, rel := range []string{"", "= ", "< ", "<= ", "> ", ">= "} {
			l = append(l, rel+a)
		}
		for _, b := range numbers {
			for _, form := range []string{"[A..B]", "(A..B]", "[A..B)", "(A..B)"} {
				l = append(l, strings.NewReplacer("A", a, "B", b).Replace(form))
			}
		}
	}
	return l
}

// What a cell's side is, is what of 0 to MaxPoint the table hits.
func TestSidesAreWhatTheTableHits(t *testing.T) {
	env := []api.Bind{{Name: "x", V: api.Val{Kind: api.Num}}}
	for _, c := range simple([]string{"0", "1", "2", "3", "500", "501.0", "998", "999", "1000", "(2)", "((998))"}) {
		x := sheet(1, c)
		boxes, ok := gaps.Of(x)
		hits := 0
		for n := range most + 1 {
			env[0].V.D.M = n
			l, _ := table.Hits(x, env)
			hits += len(l)
			if ok && gaps.In(boxes[0], row(n)) != (len(l) == 1) {
				t.Fatalf("%s: %v, %d is %v", c, boxes, n, len(l) == 1)
			}
		}
		if ok != (hits > 0) {
			t.Errorf("%s: %v, %v, %d numbers are hit", c, boxes, ok, hits)
		}
	}
}

// What no rule hits is the hole of a table's boxes; what two hit, the overlap.
func TestTablesWithHolesAndOverlaps(t *testing.T) {
	d := draw(3)
	cells := simple([]string{"0", "1", "2", "3", "4"})
	env := []api.Bind{{Name: "x", V: api.Val{Kind: api.Num}}, {Name: "y", V: api.Val{Kind: api.Num}}}
	whole := box(0, 4, 0, 4)
	told := 0
	for range 3000 {
		x := sheet(2)
		for range d.below(api.MaxRules + 1) {
			x.Rules = append(x.Rules, api.Rule{Cells: []string{cells[d.below(len(cells))], cells[d.below(len(cells))]}})
		}
		boxes, ok := gaps.Of(x)
		if !ok {
			continue
		}
		told++
		var first []int
		for _, p := range points(whole) {
			env[0].V.D.M, env[1].V.D.M = p[0], p[1]
			if l, _ := table.Hits(x, env); len(l) == 0 && first == nil {
				first = p
			} else if i, k, ok := gaps.Overlap(boxes); len(l) > 1 && (!ok || i > l[0] || i == l[0] && k > l[1]) {
				t.Fatalf("%v: %d and %d, not %v", x.Rules, i, k, l)
			}
		}
		hole(t, boxes, whole, first)
	}
	if told < 300 {
		t.Error(told)
	}
}
