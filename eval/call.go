package eval

import (
	"strings"

	"dossier/api"
	"dossier/dec"
	"dossier/val"
)

// call is a call by its name; one of no such name is Null.
func call(name string, l []api.Val) (api.Val, api.Errno) {
	switch name {
	case "cat":
		return cat(l...)
	case "min", "max", "sum":
		return overNums(name, l)
	}
	return fixed(name, l), api.OK
}

// fixed is a call that takes just one value, or just two. None of them errs.
func fixed(name string, l []api.Val) api.Val {
	switch len(l) {
	case 1:
		return ofOne(name, l[0])
	case 2:
		return ofTwo(name, l[0], l[1])
	}
	return api.Val{}
}

func ofOne(name string, a api.Val) api.Val {
	switch {
	case name == "not":
		return val.Not(a)
	case name == "abs" && a.Kind == api.Num:
		return number(api.Dec{M: max(a.D.M, -a.D.M), S: a.D.S})
	case name == "floor" && a.Kind == api.Num:
		return number(dec.Floor(a.D))
	case name == "ceil" && a.Kind == api.Num:
		return number(dec.Ceil(a.D))
	case name == "len" && a.Kind == api.Text:
		return whole(len(a.T))
	case name == "count" && a.Kind == api.List:
		return whole(len(a.L))
	}
	return api.Val{}
}

func ofTwo(name string, a, b api.Val) api.Val {
	switch {
	case name == "mod" && both(api.Num, a, b):
		return mod(a.D, b.D)
	case name == "has" && a.Kind == api.List:
		return has(a.L, b)
	}
	return api.Val{}
}

// mod goes by whole numbers, not by Div: that rounds. What may be has digits
// behind the point if, and only if, its S is above 0.
func mod(a, b api.Dec) api.Val {
	if a.S != 0 || b.S != 0 || b.M == 0 {
		return api.Val{}
	}
	r := a.M % b.M
	if r != 0 && (r < 0) != (b.M < 0) {
		r += b.M
	}
	return whole(r)
}

func has(l []api.Val, v api.Val) api.Val {
	for _, w := range l {
		if val.Equal(w, v) {
			return truth(true)
		}
	}
	return truth(false)
}

// cat is texts one behind the other. All are looked at first: one that is no
// Text makes it Null, too long or not.
func cat(l ...api.Val) (api.Val, api.Errno) {
	if len(l) == 0 || !all(api.Text, l) {
		return api.Val{}, api.OK
	}
	var b strings.Builder
	for _, v := range l {
		if b.Len()+len(v.T) > api.MaxText {
			return api.Val{}, api.ErrOver
		}
		b.WriteString(v.T)
	}
	return text(b.String()), api.OK
}

// overNums is a call over the elements of one List, or over what it has itself.
func overNums(name string, l []api.Val) (api.Val, api.Errno) {
	switch {
	case len(l) == 0:
		return api.Val{}, api.OK
	case len(l) == 1 && l[0].Kind == api.List:
		l = l[0].L
	}
	if !all(api.Num, l) {
		return api.Val{}, api.OK
	}
	switch name {
	case "min":
		return furthest(l, -1), api.OK
	case "max":
		return furthest(l, 1), api.OK
	}
	return sum(l)
}

// furthest is the least of Nums, if way is -1, the greatest, if it is 1.
func furthest(l []api.Val, way int) api.Val {
	if len(l) == 0 {
		return api.Val{}
	}
	d := l[0].D
	for _, v := range l[1:] {
		if dec.Cmp(v.D, d) == way {
			d = v.D
		}
	}
	return number(d)
}

func sum(l []api.Val) (api.Val, api.Errno) {
	var d api.Dec
	for _, v := range l {
		next, err := dec.Add(d, v.D)
		if err != api.OK {
			return api.Val{}, err
		}
		d = next
	}
	return number(d), api.OK
}

// all tells whether values are of one Kind, all of them.
func all(kind int, l []api.Val) bool {
	for _, v := range l {
		if v.Kind != kind {
			return false
		}
	}
	return true
}

func whole(n int) api.Val { return number(api.Dec{M: n}) }
