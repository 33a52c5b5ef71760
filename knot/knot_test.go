package knot_test

import (
	"fmt"
	"math"
	"strconv"
	"strings"
	"testing"

	"dossier/api"
	"dossier/knot"
)

const far = 1000000000000000

func tied(t *testing.T, want, ahead string, l ...string) {
	t.Helper()
	var rows [][]byte
	for _, s := range l {
		rows = append(rows, []byte(s))
	}
	if s := string(knot.Tie([]byte(ahead), rows...)); s != want {
		t.Errorf("%.100q and %.100q: %.100q, not %.100q", ahead, l, s, want)
	}
}

// P10.1
func TestTie(t *testing.T) {
	tied(t, "", "")
	tied(t, "x", "x")
	tied(t, "2:hi,0:,", "", "hi", "")
	tied(t, "0:,", "", "")
	tied(t, "x0:,", "x", "")
	tied(t, "x1:a,", "x", "a")
	tied(t, "1:a,1:b,", "1:a,", "b")
	tied(t, "a:,3:1:2,4:,,::,2:77,0:,3:\x00\xff\n,", "a:,", "1:2", ",,::", "77", "", "\x00\xff\n")
	tied(t, "4:a,:b,", "", "a,:b")
	tied(t, "2:é,", "", "é")
	for _, ahead := range []string{"", "x", "9:"} {
		for _, n := range []int{1, 8, 9, 10, 11, 99, 100, 101, 999, 1000, api.MaxKnot - 1, api.MaxKnot, api.MaxKnot + 1, 99999, 100000, 1 << 20} {
			long := strings.Repeat("7", n)
			tied(t, fmt.Sprintf("%s%d:%s,1:b,", ahead, n, long), ahead, long, "b")
		}
	}
}

func TestTieOfNilRows(t *testing.T) {
	if s := string(knot.Tie(nil, nil, []byte("a"), nil, []byte{})); s != "0:,1:a,0:,0:," {
		t.Error(s)
	}
	if b := knot.Tie(nil); len(b) != 0 {
		t.Error(b)
	}
	if b := knot.Tie([]byte{}, [][]byte{}...); len(b) != 0 {
		t.Error(b)
	}
	if s := string(knot.Tie([]byte("x"), [][]byte(nil)...)); s != "x" {
		t.Error(s)
	}
}

func numbered(t *testing.T, want, ahead string, l ...int) {
	t.Helper()
	if s := string(knot.Num([]byte(ahead), l...)); s != want {
		t.Errorf("%q and %v: %q, not %q", ahead, l, s, want)
	}
}

// P10.1
func TestNumLays(t *testing.T) {
	numbered(t, "", "")
	numbered(t, "x", "x")
	numbered(t, "1:0,", "", 0)
	numbered(t, "x1:7,", "x", 7)
	numbered(t, "1:9,2:10,2:99,3:100,", "", 9, 10, 99, 100)
	numbered(t, "2:-1,2:-9,3:-10,", "", -1, -9, -10)
	numbered(t, "1:0,2:-5,19:1234567890123456789,", "", 0, -5, 1234567890123456789)
	numbered(t, "1:a,16:1000000000000000,17:-1000000000000000,16:1000000000000001,17:-1000000000000001,", "1:a,", far, -far, far+1, -far-1)
	numbered(t, "20:-9223372036854775808,19:9223372036854775807,", "", math.MinInt64, math.MaxInt64)
	if b := knot.Num(nil); len(b) != 0 {
		t.Error(b)
	}
	for n := -1100; n <= 1100; n++ {
		digits := strconv.Itoa(n)
		numbered(t, fmt.Sprintf("%d:%s,", len(digits), digits), "", n)
	}
}

// rowsOf is the rows that are taken till nothing is left or one errs.
func rowsOf(s string) (l []string, c *knot.Cursor) {
	c = knot.Open([]byte(s))
	for c.Good() && !c.Whole() {
		if row := c.Row(); c.Good() {
			l = append(l, string(row))
		} else if len(row) != 0 {
			panic("a row with an error")
		}
	}
	return l, c
}

// nothing tells that a cursor erred, whatever it is asked, and how often.
func nothing(t *testing.T, about string, c *knot.Cursor) {
	t.Helper()
	for range 2 {
		if c.Good() || c.Whole() || len(c.Row()) != 0 || c.Num() != 0 {
			t.Errorf("%.100q: something behind an error", about)
		}
	}
	for range 2 {
		if c.Num() != 0 || len(c.Row()) != 0 || c.Whole() || c.Good() {
			t.Errorf("%.100q: something behind an error", about)
		}
	}
}

// noRow tells that a text begins with no row, in front of whatever stands behind it.
func noRow(t *testing.T, s string) {
	t.Helper()
	c := knot.Open([]byte(s))
	if row := c.Row(); len(row) != 0 {
		t.Errorf("%.100q: %.100q", s, row)
	}
	nothing(t, s, c)
	d := knot.Open([]byte(s))
	if n := d.Num(); n != 0 {
		t.Errorf("%.100q: %d", s, n)
	}
	nothing(t, s, d)
}

// P10.2
func TestRowsToTheEnd(t *testing.T) {
	nine := strings.Repeat("9", api.MaxKnot)
	for _, want := range [][]string{
		nil, {""}, {"a"}, {"", ""}, {"hi", ""}, {"", "hi"}, {"1:a,", ",", ":", "2:", "0:,"}, {nine}, {nine, "b", nine}, {"\x00\xff", "é"},
	} {
		var b []byte
		for _, s := range want {
			b = knot.Tie(b, []byte(s))
		}
		c := knot.Open(b)
		for _, s := range want {
			if !c.Good() || c.Whole() {
				t.Errorf("%.100q: not good, or nothing left", want)
			}
			if row := string(c.Row()); row != s {
				t.Errorf("%.100q: %.100q, not %.100q", want, row, s)
			}
		}
		if !c.Good() || !c.Whole() || !c.Whole() {
			t.Errorf("%.100q: something left", want)
		}
		if row := c.Row(); len(row) != 0 {
			t.Errorf("%.100q: %.100q at the end", want, row)
		}
		nothing(t, "the end", c)
	}
}

// P10.2
func TestWhatIsNoRow(t *testing.T) {
	for _, s := range []string{
		"", ",", ":", "a", ":,", ":a,", "a:,", "a:a,", "1", "1:", "1:a", "1a,", "1,a,", "0", "0:", "0,", "9", "9:", "2:a,", "2:a,1", "0:a,", "0:a", "1:ab,", "1::", "0::", "0:;",
		"1:a;", "1:a.", "1:a:", "1:a\x00", "1:a ", "1;a,", "1.a,", "1 :a,", " 1:a,", "1 a,", "1: a,", "1\t:a,", "\n1:a,", "1:a\n,",
		"01:a,", "00:,", "001:a,", "000:,", "010:0123456789,", "09999:" + strings.Repeat("x", 9999) + ",",
		"+1:a,", "-1:a,", "-1:,", "-0:,", "+0:,", "--1:a,", "1-:a,", "0x1:a,", "1_0:0123456789,", "1e0:a,", "1.0:a,", "\xd9\xa1:a,", "１:a,", "1a:a,", "a1:a,",
		"10000:" + strings.Repeat("x", 10000) + ",", "10001:" + strings.Repeat("x", 10001) + ",", "12000:" + strings.Repeat("x", 12000) + ",", "65537:" + strings.Repeat("x", 65537) + ",", "65536:,",
		"9223372036854775807:a,", "9223372036854775808:a,", "18446744073709551616:,", "18446744073709551617:a,", "99999999999999999999:a,", "-9223372036854775808:,", "340282366920938463463374607431768211457:a,",
		strings.Repeat("0", 100) + ":,", strings.Repeat("1", 1000) + ":a,", "4294967297:a,",
	} {
		noRow(t, s)
		if _, c := rowsOf("1:b," + s); s != "" && c.Good() {
			t.Errorf("%.100q behind a row", s)
		}
	}
	for _, s := range []string{"a", ":,", "1;a,", "01:a,", "00:,", "-1:a,", "+1:a,", "1 :a,", "1:a;", "0:a,", "10000:" + strings.Repeat("x", 10000) + ",", "99999999999999999999:a,"} {
		noRow(t, s+"1:1,")
		noRow(t, s+"1:1,1:1,0:,")
	}
}

// P10.2: what stands there, cut short at each byte.
func TestRowsCutShort(t *testing.T) {
	for _, row := range []string{"", "a", "12", "1:a,", ",,,,,,,,,", strings.Repeat("1", 9), strings.Repeat("0", 10), strings.Repeat(",", 100), strings.Repeat("2:", 500), strings.Repeat("x", api.MaxKnot)} {
		b := string(knot.Tie(nil, []byte(row)))
		for i := range len(b) {
			if len(b) > 2000 && i > 10 && i < len(b)-10 && i%97 != 0 {
				continue
			}
			noRow(t, b[:i])
		}
		if l, c := rowsOf(b); len(l) != 1 || l[0] != row || !c.Whole() {
			t.Errorf("%.100q", b)
		}
	}
}

// noNumber tells that a row is one, but none of a number, wherever it stands.
func noNumber(t *testing.T, row string) {
	t.Helper()
	b := knot.Tie(nil, []byte(row))
	for _, behind := range []string{"", "1:1,", "0:,1:1,", "x"} {
		s := string(b) + behind
		c := knot.Open([]byte(s))
		if n := c.Num(); n != 0 {
			t.Errorf("%.100q: %d", row, n)
		}
		nothing(t, s, c)
		d := knot.Open([]byte("1:5," + s))
		if n := d.Num(); n != 5 || !d.Good() || d.Num() != 0 {
			t.Errorf("%.100q behind 5", row)
		}
		nothing(t, s, d)
		as := knot.Open([]byte(s))
		if string(as.Row()) != row || !as.Good() || as.Whole() != (behind == "") {
			t.Errorf("%.100q is no row", row)
		}
	}
}

// P10.2
func TestWhatIsNoNumber(t *testing.T) {
	for _, row := range []string{
		"", "-", "+", "--", "+-1", "-+1", "--1", "-0", "+0", "00", "000", "-00", "01", "-01", "007", "-007", "+1", "+7", "1.0", "1.", ".1", "0.0", "-1.0", "1,0", "1e3", "a", "1a", "a1", " 1", "1 ", " ", "- 1", "1 2", "1\n", "\x00", "1\x00", "0x1", "0b1", "0o1", "1_0", "_1",
		"１", "\xd9\xa1", "∞", "NaN", "nil", "1:1,", "1-", "1:", ",",
		"1000000000000001", "-1000000000000001", "1000000000000002", "2000000000000000", "9999999999999999", "-9999999999999999", "10000000000000000", "-10000000000000000", "9223372036854775807", "-9223372036854775808", "9223372036854775808", "-9223372036854775809",
		"18446744073709551616", "18446744073709551617", "-18446744073709551615", "99999999999999999999", "-99999999999999999999", "340282366920938463463374607431768211456", strings.Repeat("1", 100), strings.Repeat("9", api.MaxKnot), strings.Repeat("0", api.MaxKnot), "-" + strings.Repeat("0", 100), strings.Repeat("0", 20) + "1", strings.Repeat("-", 1000),
	} {
		noNumber(t, row)
	}
	for _, n := range []int{far + 1, -far - 1, far + 1000, math.MaxInt64, math.MinInt64, math.MaxInt64 - 1, 1 << 60, -1 << 60} {
		noNumber(t, strconv.Itoa(n))
	}
}

// P10.2
func TestNumTakes(t *testing.T) {
	var all []int
	for n := -1100; n <= 1100; n++ {
		all = append(all, n)
	}
	for step := 1; step <= far; step *= 10 {
		all = append(all, step, -step, step-1, 1-step, min(step+1, far), max(-step-1, -far), step/7, -step/3)
	}
	b := knot.Num(nil, all...)
	c := knot.Open(b)
	for _, n := range all {
		if c.Whole() || c.Num() != n || !c.Good() {
			t.Fatal(n)
		}
	}
	if !c.Whole() || c.Num() != 0 {
		t.Error("the end")
	}
	nothing(t, "the end", c)
	d := knot.Open(b)
	for _, n := range all {
		if string(d.Row()) != strconv.Itoa(n) {
			t.Fatal(n)
		}
	}
	if !d.Whole() {
		t.Error("something left")
	}
}

// P10.2: Whole with something left, and with nothing left.
func TestWhole(t *testing.T) {
	for _, none := range [][]byte{nil, {}} {
		if c := knot.Open(none); !c.Good() || !c.Whole() || !c.Good() {
			t.Error("nothing")
		}
	}
	for _, s := range []string{"0:,", "x", "1", ":", ",", "1:a", "01:a,", " "} {
		if c := knot.Open([]byte(s)); !c.Good() || c.Whole() || !c.Good() {
			t.Error(s)
		}
		c := knot.Open([]byte("1:5," + s))
		if c.Whole() || c.Num() != 5 || !c.Good() || c.Whole() || !c.Good() {
			t.Error(s)
		}
	}
}

// P10.3
func TestOfNilCursors(t *testing.T) {
	var none *knot.Cursor
	for range 2 {
		if len(none.Row()) != 0 || none.Num() != 0 || none.Good() || none.Whole() {
			t.Error("nil")
		}
	}
	if none.Whole() || none.Good() || none.Num() != 0 || len(none.Row()) != 0 {
		t.Error("nil")
	}
}
