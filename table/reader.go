package table

import (
	"slices"
	"strings"

	"dossier/api"
	"dossier/cell"
	"dossier/feel"
	"dossier/val"
)

const kinds = "UAPFRO+<>#" // of hits

// sheet is a table's texts, read.
type sheet struct {
	ins   []api.Expr
	rules [][][]api.Test // of each rule, of each cell
}

// read is a table's sheet, and whether the table may be. How many there are of
// a thing is asked first, so that no more is read than a table can have.
func read(t api.Table) (sheet, bool) {
	if !hit(t.Hit) || !order(t.Order) || !otherwise(t) {
		return sheet{}, false
	}
	ins, ok := readIns(t.In)
	if !ok {
		return sheet{}, false
	}
	rules, ok := readRules(t.Rules, len(ins))
	if !ok {
		return sheet{}, false
	}
	return sheet{ins, rules}, true
}

// hit tells whether s is a kind of hits.
func hit(s string) bool { return len(s) == 1 && strings.Contains(kinds, s) }

// order tells whether an Order may be.
func order(l []api.Val) bool {
	if len(l) > api.MaxList {
		return false
	}
	for i, v := range l {
		if !val.Is(v) || slices.ContainsFunc(l[:i], func(w api.Val) bool { return val.Equal(v, w) }) {
			return false
		}
	}
	return true
}

// otherwise tells whether a table's Else may be.
func otherwise(t api.Table) bool {
	return val.Is(t.Else) && (t.Has || t.Else.Kind == api.Null)
}

func readIns(l []string) ([]api.Expr, bool) {
	if len(l) == 0 || len(l) > api.MaxIn {
		return nil, false
	}
	ins := make([]api.Expr, len(l))
	for i, s := range l {
		x, _, e := feel.Parse(s)
		if e != api.OK {
			return nil, false
		}
		ins[i] = x
	}
	return ins, true
}

// readRules is the cells of rules that have width of them each.
func readRules(l []api.Rule, width int) ([][][]api.Test, bool) {
	if len(l) > api.MaxRules {
		return nil, false
	}
	rules := make([][][]api.Test, len(l))
	for i, r := range l {
		if !out(r.Out) || len(r.Cells) != width {
			return nil, false
		}
		cells, ok := readCells(r.Cells)
		if !ok {
			return nil, false
		}
		rules[i] = cells
	}
	return rules, true
}

// out tells whether a rule may say v.
func out(v api.Val) bool { return val.Is(v) && v.Kind != api.List }

func readCells(l []string) ([][]api.Test, bool) {
	cells := make([][]api.Test, len(l))
	for i, s := range l {
		tests, _, e := cell.Parse(s)
		if e != api.OK {
			return nil, false
		}
		cells[i] = tests
	}
	return cells, true
}
