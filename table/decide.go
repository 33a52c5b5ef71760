package table

import (
	"cmp"
	"slices"

	"dossier/api"
	"dossier/eval"
	"dossier/val"
)

// decide is what a kind of hits makes of the Outs that were hit, one or more.
func decide(hit string, outs, order []api.Val) (api.Val, api.Errno) {
	switch hit {
	case "U":
		return only(outs)
	case "A":
		return agreed(outs)
	case "P":
		return sorted(outs, order)[0], api.OK
	case "R":
		return list(outs), api.OK
	case "O":
		return list(sorted(outs, order)), api.OK
	case "+":
		return call("sum", outs)
	case "<":
		return call("min", outs)
	case ">":
		return call("max", outs)
	case "#":
		return call("count", outs)
	}
	return outs[0], api.OK
}

// only is the one that there is; more than one are too many, alike or not.
func only(outs []api.Val) (api.Val, api.Errno) {
	if len(outs) > 1 {
		return api.Val{}, api.ErrMany
	}
	return outs[0], api.OK
}

// agreed is what all say.
func agreed(outs []api.Val) (api.Val, api.Errno) {
	for _, v := range outs[1:] {
		if !val.Equal(v, outs[0]) {
			return api.Val{}, api.ErrMany
		}
	}
	return outs[0], api.OK
}

// sorted is values as they stand in an Order. Those that stand at one place of
// it, or behind all, stay as they came.
func sorted(l, order []api.Val) []api.Val {
	l = slices.Clone(l)
	slices.SortStableFunc(l, func(a, b api.Val) int {
		return cmp.Compare(rank(a, order), rank(b, order))
	})
	return l
}

// rank is a value's place in an Order; what is not there stands behind all.
func rank(v api.Val, order []api.Val) int {
	at := slices.IndexFunc(order, func(w api.Val) bool { return val.Equal(v, w) })
	if at < 0 {
		return len(order)
	}
	return at
}

func list(l []api.Val) api.Val { return api.Val{Kind: api.List, L: l} }

// call is chapter 6's call of a List of values: it says what comes of those
// that are no Nums, and of a sum that is too great. A table has no more Outs
// than a List can hold.
func call(name string, l []api.Val) (api.Val, api.Errno) {
	const all = "all"
	x := api.Expr{Kind: api.ExprCall, T: name, Kids: []api.Expr{{Kind: api.ExprName, T: all}}}
	return eval.Eval(x, []api.Bind{{Name: all, V: list(l)}})
}
