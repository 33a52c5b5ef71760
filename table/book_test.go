package table_test

import (
	"math/big"
	"slices"
	"strconv"
	"strings"
	"testing"

	"dossier/api"
	"dossier/show"
	"dossier/table"
)

// Another way than the package's: of texts, and of exact fractions.

// hitsOf and runOf go through a table with the file, or with other names.
func hitsOf(x api.Table, env ...api.Bind) ([]int, api.Errno) {
	if env == nil {
		env = file()
	}
	return table.Hits(x, env)
}

func runOf(x api.Table, env ...api.Bind) (api.Val, api.Errno) {
	if env == nil {
		env = file()
	}
	return table.Run(x, env)
}

func shown(l []api.Val) []string {
	var all []string
	for _, v := range l {
		all = append(all, show.Val(v))
	}
	return all
}

// decided is the text of what Outs that are hit come to.
func decided(hit string, l, order []api.Val) (string, api.Errno) {
	all := shown(l)
	switch hit {
	case "U":
		if len(all) > 1 {
			return "null", api.ErrMany
		}
	case "A":
		if len(slices.Compact(slices.Sorted(slices.Values(all)))) > 1 {
			return "null", api.ErrMany
		}
	case "P":
		return queue(all, shown(order))[0], api.OK
	case "R":
		return "[" + strings.Join(all, ", ") + "]", api.OK
	case "O":
		return "[" + strings.Join(queue(all, shown(order)), ", ") + "]", api.OK
	case "#":
		return strconv.Itoa(len(all)), api.OK
	case "+", "<", ">":
		return reckoned(hit, l)
	}
	return all[0], api.OK
}

// queue is texts one order's after the other's, then those of none.
func queue(all, order []string) []string {
	var l []string
	for _, o := range order {
		for _, s := range all {
			if s == o {
				l = append(l, s)
			}
		}
	}
	for _, s := range all {
		if !slices.Contains(order, s) {
			l = append(l, s)
		}
	}
	return l
}

func rat(d api.Dec) *big.Rat {
	return big.NewRat(int64(d.M), []int64{1, 10, 100, 1000, 10000}[d.S])
}

func reckoned(hit string, l []api.Val) (string, api.Errno) {
	if slices.ContainsFunc(l, func(v api.Val) bool { return v.Kind != api.Num }) {
		return "null", api.OK
	}
	if hit == "+" {
		sum := new(big.Rat)
		for _, v := range l {
			if sum = held(sum.Add(sum, rat(v.D))); sum == nil {
				return "null", api.ErrOver
			}
		}
		return digits(sum), api.OK
	}
	first := slices.MinFunc(l, func(a, b api.Val) int {
		c := rat(a.D).Cmp(rat(b.D))
		if hit == ">" {
			return -c
		}
		return c
	})
	return digits(rat(first.D)), api.OK
}

// held is a fraction with as many digits behind the point as a decimal can
// hold, four at most, rounded half to even; nil, if there is none.
func held(x *big.Rat) *big.Rat {
	most := big.NewInt(api.MaxM)
	for _, power := range []int64{10000, 1000, 100, 10, 1} {
		scaled := new(big.Rat).Mul(x, big.NewRat(power, 1))
		m := half(scaled)
		if m.CmpAbs(most) <= 0 {
			return new(big.Rat).SetFrac(m, big.NewInt(power))
		}
	}
	return nil
}

// half is a fraction rounded to the nearest whole number, to the even one of two.
func half(x *big.Rat) *big.Int {
	two := big.NewInt(2)
	twice := new(big.Int).Mul(x.Num(), two)
	m := new(big.Int).Div(twice.Add(twice, x.Denom()), new(big.Int).Mul(x.Denom(), two)) // down from a half above
	if m.Bit(0) == 1 && new(big.Rat).Sub(new(big.Rat).SetInt(m), x).Cmp(big.NewRat(1, 2)) == 0 {
		m.Sub(m, big.NewInt(1))
	}
	return m
}

// digits is a fraction in digits, without noughts at its end.
func digits(x *big.Rat) string {
	return strings.TrimSuffix(strings.TrimRight(x.FloatString(4), "0"), ".")
}

func TestTheBookRounds(t *testing.T) {
	for _, x := range []struct {
		m, of int64
		want  string
	}{
		{5, 2, "2.5"}, {10000000005, 10, "1000000000"}, {9999999985, 10, "999999998"}, {9999999995, 10, "1000000000"}, {-9999999985, 10, "-999999998"}, {-9999999995, 10, "-1000000000"},
		{0, 1, "0"}, {-1, 10000, "-0.0001"}, {99999999995, 1000000, "100000"}, {9999999985, 100, "99999999.8"}, {9999999975, 100, "99999999.8"}, {9999999995, 1000, "10000000"}, {9999999985, 1000, "9999999.98"}, {10, 1, "10"},
	} {
		if got := digits(held(big.NewRat(x.m, x.of))); got != x.want {
			t.Errorf("%d by %d: %s, not %s", x.m, x.of, got, x.want)
		}
	}
	if held(big.NewRat(api.MaxM+1, 1)) != nil || held(big.NewRat(-2*api.MaxM-1, 2)) == nil || held(big.NewRat(-2*api.MaxM-3, 2)) != nil {
		t.Error("what can be held")
	}
}

// hit is a table of one In all of whose rules are hit.
func hit(kind string, l, order []api.Val) api.Table {
	x := api.Table{Hit: kind, In: []string{"x"}, Order: order}
	for _, v := range l {
		x.Rules = append(x.Rules, rule(v, "-"))
	}
	return x
}

// decides asks a table of one In all of whose rules are hit.
func decides(t *testing.T, kind string, l, order []api.Val) api.Errno {
	t.Helper()
	want, e := decided(kind, l, order)
	run(t, hit(kind, l, order), file(), want, e)
	return e
}

// rows is all rows of n of some values.
func rows(of []api.Val, n int) [][]api.Val {
	all := [][]api.Val{nil}
	for range n {
		var longer [][]api.Val
		for _, l := range all {
			for _, v := range of {
				longer = append(longer, append(l[:len(l):len(l)], v))
			}
		}
		all = longer
	}
	return all
}

func orders() [][]api.Val {
	return [][]api.Val{
		nil, {txt("a")}, {num(1, 0), null(), txt("a")}, {txt("b"), yes(true), num(25, 1), list(num(1, 0)), num(-3, 0)},
		{num(api.MaxM, 0), txt(""), num(1, 0), yes(false), txt("zz"), txt("a"), list(), null()},
	}
}

func TestByTheBookOfEachRowOfOuts(t *testing.T) {
	of := []api.Val{null(), yes(false), yes(true), num(0, 0), num(1, 0), num(-3, 0), num(25, 1), num(api.MaxM, 0), num(-api.MaxM, 0), num(-1, 4), txt(""), txt("a"), txt("b"), txt("1")}
	for n := 1; n <= 3; n++ {
		for _, l := range rows(of, n) {
			for _, kind := range kinds() {
				if kind != "P" && kind != "O" {
					decides(t, kind, l, nil)
					continue
				}
				for _, order := range orders() {
					decides(t, kind, l, order)
				}
			}
		}
	}
}

func TestByTheBookOfAllOrders(t *testing.T) {
	of := []api.Val{num(1, 0), txt("a"), null(), num(15, 1)}
	for size := range 5 {
		for _, order := range rows(of, size) {
			x := hit("O", nil, order)
			if !table.Is(x) {
				continue
			}
			for n := 1; n <= 4; n++ {
				for _, l := range rows(of, n) {
					decides(t, "P", l, order)
					decides(t, "O", l, order)
				}
			}
		}
	}
}

// number is a drawn Num: small ones, great ones, with digits behind the point.
func (x *draw) number() api.Val {
	for {
		m, s := x.next(2*api.MaxM+1)-api.MaxM, x.next(5)
		switch x.next(4) {
		case 0:
			m = x.next(41) - 20
		case 1:
			m = (1 - 2*x.next(2)) * (api.MaxM - x.next(3))
		}
		if s == 0 || m%10 != 0 {
			return num(m, s)
		}
	}
}

func TestByTheBookOfDrawnNumbers(t *testing.T) {
	var x draw
	seen := map[api.Errno]int{}
	for range 20000 {
		var l []api.Val
		for range 1 + x.next(6) {
			l = append(l, x.number())
		}
		for _, kind := range []string{"+", "<", ">"} {
			seen[decides(t, kind, l, nil)]++
		}
	}
	if seen[api.OK] < 10000 || seen[api.ErrOver] < 1000 {
		t.Errorf("too few of a kind were drawn: %v", seen)
	}
}

// Tables with all that a table has, against both books.
func TestByTheBookOfDrawnTables(t *testing.T) {
	x := draw(7)
	seen := map[api.Errno]int{}
	all := []api.Val{null(), yes(true), num(1, 0), num(1, 0), num(2, 0), num(25, 1), num(api.MaxM, 0), txt("a"), txt("b")}
	for range 20000 {
		tab := api.Table{Hit: x.of(kinds()...), In: slices.Repeat([]string{"x"}, 1+x.next(3)), Order: orders()[x.next(5)]}
		if tab.Has = x.next(2) == 0; tab.Has {
			tab.Else = lists()[x.next(len(lists()))]
		}
		var outcomes [][]int
		for range x.next(7) {
			var row []int
			for range tab.In {
				row = append(row, []int{fits, fits, fits, fits, fits, fits, misses, misses, fails}[x.next(9)])
			}
			outcomes = append(outcomes, row)
			tab.Rules = append(tab.Rules, rule(all[x.next(len(all))], x.drawn(row)...))
		}
		places, e := expected(outcomes)
		if x.next(20) == 0 {
			tab.In[x.next(len(tab.In))], places, e = "big * 10", nil, api.ErrOver
		}
		hits(t, tab, file(), places, e)
		want, err := "null", e
		if e == api.OK {
			want, err = answer(tab, places)
		}
		run(t, tab, file(), want, err)
		seen[err]++
	}
	if seen[api.OK] < 5000 || seen[api.ErrOver] < 1000 || seen[api.ErrMany] < 500 {
		t.Errorf("too few of a kind were drawn: %v", seen)
	}
}

// answer is what Run ought to say of a table whose hits are known.
func answer(x api.Table, places []int) (string, api.Errno) {
	if places == nil {
		return show.Val(x.Else), api.OK
	}
	var l []api.Val
	for _, p := range places {
		l = append(l, x.Rules[p].Out)
	}
	return decided(x.Hit, l, x.Order)
}
