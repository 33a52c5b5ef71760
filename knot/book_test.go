package knot_test

import (
	"fmt"
	"slices"
	"strconv"
	"strings"
	"testing"

	"dossier/api"
	"dossier/knot"
)

type draw uint64

func (d *draw) below(n int) int {
	*d = *d*6364136223846793005 + 1442695040888963407
	return int(uint64(*d)>>33) % n
}

// first is the row that a text begins with, by the book: each length that one
// may have is laid out and held against the text.
func first(s string) (row, left string, ok bool) {
	for n := range min(api.MaxKnot, len(s)) + 1 {
		head := fmt.Sprint(n) + ":"
		if end := len(head) + n; strings.HasPrefix(s, head) && len(s) > end && s[end] == ',' {
			return s[len(head):end], s[end+1:], true
		}
	}
	return "", "", false
}

// worth is the number of a row, by the book: digit by digit, at most 16 of them.
func worth(row string) (n int, ok bool) {
	digits := strings.TrimPrefix(row, "-")
	if len(digits) == 0 || len(digits) > 16 || digits[0] == '0' && row != "0" {
		return 0, false
	}
	for _, r := range digits {
		if r < '0' || r > '9' {
			return 0, false
		}
		n = n*10 + int(r-'0')
	}
	if n > far {
		return 0, false
	}
	if digits != row {
		n = -n
	}
	return n, true
}

// byBook holds a cursor against the book, taking rows and numbers as the asks
// tell (1: a number), and once more behind them.
func byBook(t *testing.T, s string, asks ...int) {
	t.Helper()
	c := knot.Open([]byte(s))
	left, good := s, true
	for i, ask := range append(asks, 0) {
		if c.Good() != good || c.Whole() != (good && left == "") {
			t.Fatalf("%q, %v, at %d: %v, %v", s, asks, i, c.Good(), c.Whole())
		}
		row, behind, ok := first(left)
		n, is := worth(row)
		good = good && ok && (ask == 0 || is)
		left = behind
		if !good {
			row, n = "", 0
		}
		if ask == 0 {
			if got := string(c.Row()); got != row {
				t.Fatalf("%q, %v, at %d: %q, not %q", s, asks, i, got, row)
			}
		} else if got := c.Num(); got != n {
			t.Fatalf("%q, %v, at %d: %d, not %d", s, asks, i, got, n)
		}
	}
	if c.Good() != good || c.Whole() != (good && left == "") {
		t.Fatalf("%q, %v: %v, %v", s, asks, c.Good(), c.Whole())
	}
}

// texts is all texts of up to n bytes of some.
func texts(of string, n int) []string {
	all := []string{""}
	from := 0
	for range n {
		to := len(all)
		for _, s := range all[from:to] {
			for _, r := range of {
				all = append(all, s+string(r))
			}
		}
		from = to
	}
	return all
}

func TestAllShortTexts(t *testing.T) {
	for _, s := range append(texts("012:,-", 6), texts("1:,0+", 7)...) {
		byBook(t, s, 0, 0)
		byBook(t, s, 1, 1)
	}
	for _, s := range texts("01:,", 8) {
		byBook(t, s, 0, 1, 0)
	}
}

func TestAllShortNumbers(t *testing.T) {
	for _, row := range texts("019-+. ", 5) {
		byBook(t, string(knot.Tie(nil, []byte(row), []byte("1"))), 1, 1)
	}
}

// drawn is a row of one of some kinds.
func (d *draw) drawn() []byte {
	switch d.below(5) {
	case 0:
		return nil
	case 1:
		return strconv.AppendInt(nil, int64(d.below(2000)-1000), 10)
	case 2:
		return strconv.AppendInt(nil, int64(d.below(1<<31))*int64(d.below(1<<31)-1<<30), 10)
	case 3:
		return []byte(strings.Repeat("1:,", d.below(60)))
	}
	row := make([]byte, d.below(120))
	for i := range row {
		row[i] = "0123456789:,-+x \x00\xff"[d.below(18)]
	}
	return row
}

func TestDrawnRows(t *testing.T) {
	d := draw(10)
	for range 3000 {
		var b []byte
		var asks []int
		var rows [][]byte
		for range d.below(6) {
			row := d.drawn()
			rows = append(rows, row)
			b = knot.Tie(b, row)
			asks = append(asks, d.below(2)*d.below(2))
		}
		if !slices.Equal(b, knot.Tie(nil, rows...)) {
			t.Fatalf("%q: not one behind the other", rows)
		}
		byBook(t, string(b), asks...)
		if len(b) == 0 {
			continue
		}
		at := d.below(len(b))
		byBook(t, string(b[:at])+string(b[at+1:]), asks...)
		byBook(t, string(b[at:]), asks...)
		b[at] = "0123456789:,-+ "[d.below(15)]
		byBook(t, string(b), asks...)
	}
}

// P10.3: each row has one form: where rows are taken, they are laid as they stood.
func TestNoSecondForm(t *testing.T) {
	for _, l := range [][]string{{""}, {"a"}, {"12", ""}, {"1:a,"}, {"0:,", "-5"}, {strings.Repeat("1", 10), "7"}, {strings.Repeat(",", 100)}, {strings.Repeat("0:,", 40), "12"}} {
		var b []byte
		for _, row := range l {
			b = knot.Tie(b, []byte(row))
		}
		for at := range b {
			oneForm(t, string(b[:at])+string(b[at+1:]))
			for turned := range 256 {
				oneForm(t, string(b[:at])+string([]byte{byte(turned)})+string(b[at+1:]))
			}
		}
	}
	for _, s := range append(texts("0123:,", 6), texts("012:,", 7)...) {
		oneForm(t, s)
	}
}

func oneForm(t *testing.T, s string) {
	t.Helper()
	l, c := rowsOf(s)
	if !c.Whole() {
		return
	}
	var b []byte
	for _, row := range l {
		b = knot.Tie(b, []byte(row))
	}
	if string(b) != s {
		t.Fatalf("%q: %q is laid %q", s, l, b)
	}
}

func TestNoSecondFormOfNumbers(t *testing.T) {
	for _, n := range []int{0, 7, -7, 10, -10, 1000, 999999, far, -far, 123456789012345, -123456789012345} {
		digits := strconv.Itoa(n)
		for at := range digits {
			oneNumber(t, digits[:at]+digits[at+1:])
			for turned := range 256 {
				oneNumber(t, digits[:at]+string([]byte{byte(turned)})+digits[at+1:])
				oneNumber(t, digits[:at]+string([]byte{byte(turned)})+digits[at:])
			}
		}
	}
}

func oneNumber(t *testing.T, row string) {
	t.Helper()
	b := knot.Tie(nil, []byte(row))
	c := knot.Open(b)
	if n := c.Num(); c.Good() && string(knot.Num(nil, n)) != string(b) {
		t.Fatalf("%q is taken as %d", row, n)
	}
	byBook(t, string(b), 1)
}
