package table_test

import (
	"reflect"
	"slices"
	"testing"

	"dossier/api"
	"dossier/show"
	"dossier/table"
)

// roomy is a list with something in the spare room behind its end.
func roomy[T any](spare T, l ...T) []T { return append(l, spare, spare)[: len(l) : len(l)+2] }

func roomyList(l ...api.Val) api.Val {
	return api.Val{Kind: api.List, L: roomy(txt("spare"), l...)}
}

// bare is a value that is no list, with spare room behind a row without an element.
func bare(v api.Val) api.Val {
	v.L = roomy(txt("spare"))
	return v
}

func roomyRule(out api.Val, cells ...string) api.Rule {
	return api.Rule{Cells: roomy("spare", cells...), Out: out}
}

// full is a table with spare room behind all lists.
func full(kind string) api.Table {
	return api.Table{
		Hit: kind, In: roomy("spare", "x", "l"),
		Rules: roomy(rule(num(9, 0), "-", "-"),
			roomyRule(bare(num(3, 0)), "5", "[1, 2]"), roomyRule(bare(num(1, 0)), "6", "-"), roomyRule(bare(num(2, 0)), "-", "l, not(l)"), roomyRule(bare(num(3, 0)), "> 4", "-")),
		Order: roomy(num(2, 0), bare(num(2, 0)), roomyList(num(1, 0)), bare(num(3, 0))),
		Has:   true, Else: roomyList(roomyList(num(1, 0)), roomyList(), bare(txt("a"))),
	}
}

func binds() []api.Bind {
	return roomy(api.Bind{Name: "l", V: num(1, 0)}, api.Bind{Name: "k", V: roomyList()}, api.Bind{Name: "l", V: roomyList(num(1, 0), num(2, 0))}, api.Bind{Name: "x", V: bare(num(5, 0))})
}

// open is a table with the spare room behind all lists' ends as elements, in
// memory of its own.
func open(x api.Table) api.Table {
	x.In = slices.Clone(x.In[:cap(x.In)])
	rules := x.Rules[:cap(x.Rules)]
	x.Rules = nil
	for _, r := range rules {
		x.Rules = append(x.Rules, api.Rule{Cells: slices.Clone(r.Cells[:cap(r.Cells)]), Out: openVal(r.Out)})
	}
	x.Order = openVals(x.Order)
	x.Else = openVal(x.Else)
	return x
}

func openVals(l []api.Val) []api.Val {
	var all []api.Val
	for _, v := range l[:cap(l)] {
		all = append(all, openVal(v))
	}
	return all
}

func openVal(v api.Val) api.Val {
	v.L = openVals(v.L)
	return v
}

func openBinds(l []api.Bind) []api.Bind {
	var all []api.Bind
	for _, b := range l[:cap(l)] {
		all = append(all, api.Bind{Name: b.Name, V: openVal(b.V)})
	}
	return all
}

// tables is tables of each Hit, with hits and without, with errors and that may not be.
func tables() []api.Table {
	var l []api.Table
	for _, kind := range append(kinds(), "u") {
		x, y, z, w := full(kind), full(kind), full(kind), full(kind)
		y.In[0] = "0"
		for i := range y.Rules {
			y.Rules[i].Cells[0] = "1"
		}
		z.Rules[3].Cells[0] = "1000000000 * 10"
		w.Order[0] = num(3, 0)
		l = append(l, x, y, z, w)
	}
	return l
}

func TestNothingThatIsHandedInIsChanged(t *testing.T) {
	env := binds()
	keptEnv := openBinds(env)
	for _, x := range tables() {
		kept := open(x)
		for range 2 {
			table.Is(x)
			runOf(x, env...)
			table.Hits(x, env)
			table.Run(x, env)
			if !reflect.DeepEqual(open(x), kept) || !reflect.DeepEqual(openBinds(env), keptEnv) {
				t.Fatalf("%s: what is handed in is changed", told(x))
			}
		}
	}
}

// rooms counts how often each place of memory stands in the lists of values,
// spare room too.
type rooms map[*api.Val]int

func (r rooms) count(v api.Val) {
	l := v.L[:cap(v.L)]
	for i := range l {
		r[&l[i]]++
		r.count(l[i])
	}
}

func (r rooms) countTable(x api.Table) {
	for _, c := range x.Rules[:cap(x.Rules)] {
		r.count(c.Out)
	}
	r.count(api.Val{L: x.Order})
	r.count(x.Else)
}

func TestAnswersAreNewMemory(t *testing.T) {
	env := binds()
	for _, x := range tables() {
		r := rooms{}
		r.countTable(x)
		for _, b := range env[:cap(env)] {
			r.count(b.V)
		}
		for range 3 {
			v, _ := table.Run(x, env)
			r.count(v)
		}
		for _, n := range r {
			if n > 1 {
				t.Fatalf("%s: two lists have one place", told(x))
			}
		}
	}
}

// What is answered can be changed, and the same be asked again.
func TestAnswersAreTheCallers(t *testing.T) {
	env := binds()
	for _, x := range tables() {
		kept := open(x)
		places, e := table.Hits(x, env)
		v, f := table.Run(x, env)
		want, text := slices.Clone(places), show.Val(v)
		for range 3 {
			spoilPlaces(places)
			spoil(v)
			places, _ = table.Hits(x, env)
			v, _ = table.Run(x, env)
			if !reflect.DeepEqual(open(x), kept) {
				t.Fatalf("%s: changed by a change of an answer", told(x))
			}
			hits(t, x, env, want, e)
			run(t, x, env, text, f)
		}
	}
}

func spoilPlaces(l []int) {
	l = l[:cap(l)]
	for i := range l {
		l[i] = -1
	}
}

func spoil(v api.Val) {
	l := v.L[:cap(v.L)]
	for i := range l {
		spoil(l[i])
		l[i] = txt("spoilt")
	}
}

// What was answered stays, whatever becomes of the table and of later calls.
func TestAnswersStay(t *testing.T) {
	for _, kind := range kinds() {
		for _, cell := range []string{"-", "6"} {
			x := full(kind)
			for i := range x.Rules {
				x.Rules[i].Cells[0] = cell
			}
			env := binds()
			places, _ := table.Hits(x, env)
			v, _ := table.Run(x, env)
			want, text := slices.Clone(places), show.Val(v)
			for i := range x.Rules {
				spoil(x.Rules[i].Out)
				x.Rules[i] = rule(txt("z"), "-", "-")
			}
			spoil(x.Else)
			spoil(api.Val{L: x.Order})
			x.Order = nil
			x.Else = txt("y")
			for i := range env {
				spoil(env[i].V)
				env[i] = api.Bind{Name: "x"}
			}
			table.Hits(x, env)
			table.Run(x, env)
			if !slices.Equal(places, want) || show.Val(v) != text {
				t.Fatalf("%s: %v, %s; not %v, %s", kind, places, show.Val(v), want, text)
			}
		}
	}
}

// A call's answer hangs on what it is given then, on nothing of an earlier call.
func TestNothingIsKept(t *testing.T) {
	x := api.Table{Hit: "+", In: []string{"x"}, Rules: []api.Rule{rule(num(0, 0), "> 10"), rule(num(0, 0), "y"), rule(num(0, 0), "z")}}
	env := []api.Bind{{Name: "x", V: num(0, 0)}, {Name: "y", V: num(0, 0)}, {Name: "z", V: txt("z")}}
	for n := 1; n <= 50; n++ {
		env[0].V, env[1].V = num(n, 0), num(n, 0)
		x.Rules[1].Out = num(n, 0)
		run(t, x, env, show.Val(num(n, 0)), api.OK)
		x.Rules[0].Out, x.Rules[0].Cells[0] = num(n, 0), "> 0"
		run(t, x, env, show.Val(num(2*n, 0)), api.OK)
		x.Hit = "#"
		run(t, x, env, "2", api.OK)
		x.Rules[2].Cells[0] = "x"
		run(t, x, env, "3", api.OK)
		run(t, x, nil, "2", api.OK)
		x.In[0] = "z"
		run(t, x, env, "null", api.OK)
		x.Rules[0].Cells[0] = "1000000000 * 10"
		errs(t, x, env, api.ErrOver)
		x.In[0] = "x +"
		may(t, x, false)
		x.Hit, x.In[0], x.Rules[0].Cells[0], x.Rules[2].Cells[0] = "+", "x", "< 0", "z"
	}
}

// Nil and empty rows are one.
func TestNilAndEmptyRowsAreOne(t *testing.T) {
	for _, kind := range kinds() {
		for _, rules := range [][]api.Rule{nil, {}} {
			for _, order := range [][]api.Val{nil, {}} {
				for _, env := range [][]api.Bind{nil, {}} {
					for _, v := range []api.Val{null(), {L: []api.Val{}}} {
						x := api.Table{Hit: kind, In: []string{"x"}, Rules: rules, Order: order, Else: v}
						may(t, x, true)
						hits(t, x, env, nil, api.OK)
						run(t, x, env, "null", api.OK)
					}
				}
			}
		}
	}
	for _, v := range []api.Val{list(), {Kind: api.List, L: []api.Val{}}} {
		x := api.Table{Hit: "U", In: []string{"x"}, Order: []api.Val{v}, Has: true, Else: v}
		run(t, x, nil, "[]", api.OK)
	}
}
