package gaps

import (
	"dossier/api"
	"dossier/cell"
	"dossier/dec"
	"dossier/table"
)

// Of is a table's boxes.
func Of(t api.Table) ([]api.Box, bool) {
	if !table.Is(t) {
		return nil, false
	}
	boxes := make([]api.Box, len(t.Rules))
	for i, r := range t.Rules {
		b, ok := boxOf(r.Cells)
		if !ok {
			return nil, false
		}
		boxes[i] = b
	}
	return boxes, true
}

// boxOf is the box that a rule's cells tell, side by side.
func boxOf(cells []string) (api.Box, bool) {
	b := api.Box{Lo: make([]int, len(cells)), Hi: make([]int, len(cells))}
	for i, s := range cells {
		lo, hi, ok := sideOf(s)
		if !ok {
			return api.Box{}, false
		}
		b.Lo[i], b.Hi[i] = lo, hi
	}
	return b, true
}

// sideOf is the numbers from nought to MaxPoint that a cell covers.
func sideOf(s string) (lo, hi int, ok bool) {
	tests, _, e := cell.Parse(s)
	if e != api.OK || len(tests) != 1 {
		return 0, 0, false
	}
	switch t := tests[0]; t.Kind {
	case api.TestAny:
		lo, hi, ok = 0, api.MaxPoint, true
	case api.TestCmp:
		lo, hi, ok = related(t)
	case api.TestRange:
		lo, hi, ok = between(t)
	}
	if !ok || lo > hi {
		return 0, 0, false
	}
	return lo, hi, true
}

// related is what a relation to a number covers.
func related(t api.Test) (lo, hi int, ok bool) {
	n, ok := point(t.A)
	if !ok {
		return 0, 0, false
	}
	switch t.Rel {
	case "=":
		return n, n, true
	case "<":
		return 0, n - 1, true
	case "<=":
		return 0, n, true
	case ">":
		return n + 1, api.MaxPoint, true
	case ">=":
		return n, api.MaxPoint, true
	}
	return 0, 0, false
}

// between is what a range of two numbers covers.
func between(t api.Test) (lo, hi int, ok bool) {
	lo, from := point(t.A)
	hi, to := point(t.B)
	if !from || !to {
		return 0, 0, false
	}
	if !t.Lo {
		lo++
	}
	if !t.Hi {
		hi--
	}
	return lo, hi, true
}

// point is the number of a side that an expression is as such.
func point(x api.Expr) (int, bool) {
	d := x.D
	if x.Kind != api.ExprNum || dec.Floor(d) != d || d.M > api.MaxPoint {
		return 0, false
	}
	return d.M, true
}
