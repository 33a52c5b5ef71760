package val_test

import (
	"strconv"
	"strings"
	"testing"

	"dossier/api"
	"dossier/val"
)

func null() api.Val              { return api.Val{} }
func yes(b bool) api.Val         { return api.Val{Kind: api.Bool, B: b} }
func num(m, s int) api.Val       { return api.Val{Kind: api.Num, D: api.Dec{M: m, S: s}} }
func txt(s string) api.Val       { return api.Val{Kind: api.Text, T: s} }
func list(l ...api.Val) api.Val  { return api.Val{Kind: api.List, L: l} }
func full(n int) api.Val         { return list(make([]api.Val, n)...) }
func kind(k int) api.Val         { return api.Val{Kind: k} }
func spare(l ...api.Val) api.Val { return list(append(make([]api.Val, 0, len(l)+3), l...)...) }
func bare(l []api.Val) api.Val   { return api.Val{L: l} }
func room(v api.Val) []api.Val   { return v.L[:cap(v.L)] }
func with(v, field api.Val) (w api.Val) {
	w = v
	if field.B {
		w.B = true
	}
	if field.D != (api.Dec{}) {
		w.D = field.D
	}
	if field.T != "" {
		w.T = field.T
	}
	if field.L != nil {
		w.L = field.L
	}
	return w
}

// told is a value in words, so that a failing test can be read; nil and empty rows look alike.
func told(v api.Val) string {
	var b strings.Builder
	b.WriteString("{" + strconv.Itoa(v.Kind) + " " + strconv.FormatBool(v.B) + " " + strconv.Itoa(v.D.M) + "e" + strconv.Itoa(v.D.S) + " " + strconv.Quote(v.T))
	for _, k := range v.L {
		b.WriteString(" " + told(k))
	}
	return b.String() + "}"
}

// key is a text of a value that may be: the keys' order is that of the values, by another way than the package's.
func key(v api.Val) string {
	head := strconv.Itoa(v.Kind)
	switch v.Kind {
	case api.Bool:
		return head + map[bool]string{false: "f", true: "t"}[v.B]
	case api.Num:
		n := v.D.M
		for range 4 - v.D.S {
			n *= 10
		}
		return head + strconv.Itoa(n+50000000000000)
	case api.Text:
		return head + v.T + "\x00"
	case api.List:
		for _, k := range v.L {
			head += "\x01" + key(k)
		}
		return head + "\x00"
	}
	return head
}

// draw is drawn numbers, the same ones each time.
type draw uint64

func (x *draw) next(n int) int {
	*x = *x*6364136223846793005 + 1442695040888963407
	return int(*x>>33) % n
}

// value is a drawn value that may be, with few enough choices that alike ones come.
func (x *draw) value(nest int) api.Val {
	kinds := 4
	if nest > 0 {
		kinds = 6
	}
	switch x.next(kinds) {
	case 0:
		return null()
	case 1:
		return yes(x.next(2) == 0)
	case 2:
		m, s := x.next(41)-20, x.next(5)
		if m%10 == 0 {
			s = 0
		}
		return num(m, s)
	case 3:
		t := ""
		for range x.next(4) {
			t += string(" !#a~"[x.next(5)])
		}
		return txt(t)
	}
	var l []api.Val
	for range x.next(4) {
		l = append(l, x.value(nest-1))
	}
	return list(l...)
}

// sample is values that may be: the edges, and drawn ones.
func sample(many int) []api.Val {
	all := []api.Val{
		null(), yes(false), yes(true), num(0, 0), num(-1, 4), num(1, 4), num(1, 0), num(11, 1), num(10, 0), num(-1000000000, 0), num(1000000000, 0), num(999999999, 4),
		txt(""), txt(" "), txt("~"), txt("a"), txt("aa"), txt("ab"), txt("b"), txt("sixteen bytes xx"),
		list(), full(8), full(7), list(null()), list(list()), list(list(), null()), list(null(), list()), list(list(null())), list(full(8), full(8), full(8), full(8), full(8), full(8), full(8), full(8)),
	}
	x := draw(7)
	for range many {
		all = append(all, x.value(2))
	}
	return all
}

// wrong is values that may not be.
func wrong() []api.Val {
	round := make([]api.Val, 1)
	round[0] = list(round...) // it holds itself
	deep := list()
	for range 1 << 16 {
		deep = list(deep)
	}
	return []api.Val{kind(-1), kind(5), num(10, 1), txt("\""), txt(strings.Repeat("x", 17)), full(9), list(list(list())), list(kind(9)), {B: true}, {T: "x"}, {L: full(1).L}, list(round...), deep}
}

func TestIsKinds(t *testing.T) {
	for k := -3; k <= 8; k++ {
		if want := k >= 0 && k <= 4; val.Is(kind(k)) != want {
			t.Errorf("Kind %d: not %t", k, want)
		}
	}
	for _, k := range []int{-1 << 63, 1<<63 - 1, 1 << 32, 1<<32 + 1, 1<<8 + 1, 256} {
		if val.Is(kind(k)) {
			t.Errorf("Kind %d may be", k)
		}
	}
}

func TestIsFieldsOfOthers(t *testing.T) {
	whole := []api.Val{null(), yes(true), num(5, 1), txt("x"), list(null())}
	fields := []struct {
		kind int
		v    api.Val
	}{
		{api.Bool, api.Val{B: true}}, {api.Num, api.Val{D: api.Dec{M: 1}}}, {api.Num, api.Val{D: api.Dec{M: 1, S: 1}}}, {api.Num, api.Val{D: api.Dec{S: 1}}},
		{api.Text, api.Val{T: "x"}}, {api.Text, api.Val{T: " "}}, {api.List, bare(make([]api.Val, 1))}, {api.List, bare([]api.Val{yes(true)})},
	}
	for _, w := range whole {
		for _, f := range fields {
			v := with(w, f.v)
			// A nought with a scale may not be, whatever the Kind.
			want := w.Kind == f.kind && f.v.D != api.Dec{S: 1}
			if val.Is(v) != want {
				t.Errorf("Is(%s): not %t", told(v), want)
			}
		}
		empty := with(w, bare([]api.Val{}))
		if !val.Is(empty) || !val.Is(w) {
			t.Errorf("Is(%s): false", told(w))
		}
		ahead := with(w, bare(make([]api.Val, 0, 4)))
		if !val.Is(ahead) {
			t.Errorf("Is(%s): false, with spare room", told(w))
		}
	}
}

func TestIsDecimals(t *testing.T) {
	for _, x := range []struct {
		m, s int
		want bool
	}{
		{0, 0, true}, {1000000000, 0, true}, {-1000000000, 0, true}, {999999999, 4, true}, {-1, 4, true}, {10, 0, true},
		{1000000001, 0, false}, {-1000000001, 0, false}, {1, 5, false}, {1, -1, false}, {10, 1, false}, {0, 1, false}, {-20, 2, false}, {1<<63 - 1, 0, false}, {-1 << 63, 0, false},
	} {
		for _, v := range []api.Val{num(x.m, x.s), list(num(x.m, x.s)), list(list(null(), num(x.m, x.s)))} {
			if val.Is(v) != x.want {
				t.Errorf("Is(%s): not %t", told(v), x.want)
			}
		}
	}
}

func TestIsTexts(t *testing.T) {
	for n := range 40 {
		if want := n <= 16; val.Is(txt(strings.Repeat("x", n))) != want {
			t.Errorf("%d bytes: not %t", n, want)
		}
	}
	for c := range 256 {
		want := c >= 0x20 && c <= 0x7e && c != 0x22
		for _, s := range []string{string([]byte{byte(c)}), string([]byte{byte(c), 'a'}), string([]byte{'a', byte(c)}), "fifteen bytes x" + string([]byte{byte(c)})} {
			if val.Is(txt(s)) != want {
				t.Errorf("Is(%q): not %t", s, want)
			}
		}
	}
	for _, s := range []string{"\u00e4", "\u2028", "\xff\xfe", strings.Repeat("x", 1<<20), strings.Repeat("\u00e4", 8)} {
		if val.Is(txt(s)) {
			t.Errorf("a text of %d bytes may be", len(s))
		}
	}
}

func TestIsLists(t *testing.T) {
	for n := range 20 {
		want := n <= 8
		if val.Is(full(n)) != want || val.Is(list(full(n))) != want || val.Is(list(null(), full(n))) != want {
			t.Errorf("%d values: not %t", n, want)
		}
	}
	for _, bad := range wrong() {
		for n := range 8 {
			l := make([]api.Val, 8)
			l[n] = bad
			if val.Is(list(l...)) || val.Is(list(list(l...))) || val.Is(list(null(), list(l[:n+1]...))) {
				t.Errorf("one that may not be at %d: may be", n)
			}
		}
	}
}

func TestIsNests(t *testing.T) {
	v := list()
	for n := 1; n < 8; n++ {
		if want := n <= 2; val.Is(v) != want {
			t.Errorf("%d lists within one another: not %t", n, want)
		}
		v = list(v)
	}
	side := list(list(), list(), list(null()), num(1, 0), list(list().L...))
	if !val.Is(side) {
		t.Error("lists side by side")
	}
	if val.Is(list(null(), list(null(), list()))) || val.Is(list(list(), list(list()))) {
		t.Error("three lists within one another, not the first ones")
	}
}

func TestIsOfSample(t *testing.T) {
	for _, v := range sample(2000) {
		if !val.Is(v) {
			t.Fatalf("Is(%s): false", told(v))
		}
	}
	for _, v := range wrong() {
		if val.Is(v) {
			t.Errorf("Is of Kind %d: true", v.Kind)
		}
	}
}
