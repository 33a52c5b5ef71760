package knot_test

import (
	"bytes"
	"strings"
	"testing"

	"dossier/knot"
)

// roomy is bytes with others in the spare room behind their end.
func roomy(s string) []byte {
	return append([]byte(s), "!!!!!!!!!!!!!!!!!!!!!!!!!!!!!!!!!!!!!!!!"...)[: len(s) : len(s)+40]
}

// open is all of a slice, spare room too.
func open(b []byte) string { return string(b[:cap(b)]) }

func fill(b []byte) {
	b = b[:cap(b)]
	for i := range b {
		b[i] = '#'
	}
}

// P10.3
func TestNothingThatIsHandedInIsChanged(t *testing.T) {
	for _, s := range []string{"", "x", "1:a,", strings.Repeat("x", 100)} {
		ahead := roomy(s)
		rows := append([][]byte{roomy("a"), roomy(""), roomy(s)}, roomy("c"))
		numbers := append([]int{1, -2}, 3, 4)
		was := open(ahead)
		knot.Tie(ahead, rows[:3]...)
		knot.Tie(ahead, rows[0])
		knot.Tie(ahead)
		knot.Num(ahead, numbers[:2]...)
		knot.Num(ahead)
		knot.Tie(rows[0], rows...)
		knot.Tie(rows[2], rows[2][:0], rows[2])
		if open(ahead) != was || open(rows[0]) != open(roomy("a")) || open(rows[1]) != open(roomy("")) || open(rows[2]) != was || open(rows[3]) != open(roomy("c")) {
			t.Errorf("%q: changed", s)
		}
		if numbers[0] != 1 || numbers[1] != -2 || numbers[2] != 3 || numbers[3] != 4 {
			t.Error(numbers)
		}
	}
	for _, s := range []string{"", "1:a,0:,1:5,", "1:5,2:ab", "01:a,", "x"} {
		mine := roomy(s)
		c := knot.Open(mine)
		for range 4 {
			fill(c.Row())
		}
		d := knot.Open(mine)
		for range 4 {
			d.Num()
		}
		if open(mine) != open(roomy(s)) {
			t.Errorf("%q: %q", s, open(mine))
		}
	}
}

// P10.3
func TestNothingThatIsHandedInIsKept(t *testing.T) {
	mine := roomy("1:a,2:bc,1:5,")
	c := knot.Open(mine)
	fill(mine)
	if string(c.Row()) != "a" {
		t.Error("kept")
	}
	fill(mine)
	if string(c.Row()) != "bc" || c.Num() != 5 || !c.Whole() {
		t.Error("kept")
	}
	short := roomy("1:a,1:")
	c = knot.Open(short[:4])
	if string(c.Row()) != "a" || !c.Whole() || len(c.Row()) != 0 || c.Good() {
		t.Error("behind the end")
	}
}

// shared tells whether two slices share any room.
func shared(a, b []byte) bool {
	was := open(b)
	fill(a)
	return open(b) != was
}

// P10.3
func TestWhatIsAnsweredIsNewMemory(t *testing.T) {
	for _, s := range []string{"", "x", strings.Repeat("x", 33)} {
		ahead, row := roomy(s), roomy("ab")
		for _, lay := range []func() []byte{
			func() []byte { return knot.Tie(ahead) },
			func() []byte { return knot.Tie(ahead, row) },
			func() []byte { return knot.Tie(nil, ahead) },
			func() []byte { return knot.Num(ahead) },
			func() []byte { return knot.Num(ahead, 5) },
		} {
			a, b := lay(), lay()
			was := string(a)
			if shared(a, b) || shared(a, ahead) || shared(a, row) || shared(b, a) {
				t.Errorf("%q: shared", s)
			}
			if string(lay()) != was {
				t.Errorf("%q: kept", s)
			}
		}
	}
}

// A taken row that is changed, or grows, changes no other.
func TestTakenRowsAreNewMemory(t *testing.T) {
	want := []string{"ab", "", "c", "", strings.Repeat("d", 50), "5"}
	var b []byte
	for _, s := range want {
		b = knot.Tie(b, []byte(s))
	}
	laid := string(b)
	for at := range want {
		c, d := knot.Open(b), knot.Open(b)
		var taken [][]byte
		for i, s := range want {
			row := c.Row()
			if string(row) != s {
				t.Fatalf("%d: %q", i, row)
			}
			taken = append(taken, row)
			if i == at {
				fill(row)
				_ = append(row, "####################"...)
			}
		}
		for i, s := range want {
			if i != at && string(taken[i]) != s {
				t.Errorf("%d changed %d: %q", at, i, taken[i])
			}
			if string(d.Row()) != s {
				t.Errorf("%d changed another cursor's", at)
			}
		}
		for i := range taken {
			for k := range taken {
				if i != k && shared(taken[i], taken[k]) {
					t.Errorf("%d and %d share", i, k)
				}
			}
		}
		if string(b) != laid {
			t.Error("what was handed in is changed")
		}
	}
}

// What a cursor answers hangs on nothing but its own bytes and calls.
func TestCursorsDoNotTouchEachOther(t *testing.T) {
	b := knot.Num(nil, 1, 2, 3)
	c, d, broken := knot.Open(b), knot.Open(b), knot.Open([]byte("x"))
	broken.Row()
	if c.Num() != 1 || c.Num() != 2 || d.Num() != 1 || broken.Good() || c.Num() != 3 || !c.Whole() || d.Whole() || d.Num() != 2 || !d.Good() {
		t.Error("touched")
	}
	copied := *d
	if copied.Num() != 3 || !copied.Whole() {
		t.Error("a copy goes on")
	}
}

// W1: of any length.
func TestLongBytes(t *testing.T) {
	for _, s := range []string{strings.Repeat("0", 1<<22), strings.Repeat("9", 1<<22) + ":", strings.Repeat(":", 1<<22), strings.Repeat(",", 1<<22), strings.Repeat("x", 1<<22), strings.Repeat("-", 1<<22), "9999:" + strings.Repeat("x", 1<<22), "1:a" + strings.Repeat("x", 1<<22)} {
		noRow(t, s)
	}
	const many = 1 << 18
	b := knot.Tie(nil, make([][]byte, many)...)
	if !bytes.Equal(b, bytes.Repeat([]byte("0:,"), many)) {
		t.Error("many rows")
	}
	c := knot.Open(b)
	for range many {
		c.Row()
	}
	if !c.Whole() {
		t.Error("many rows")
	}
	n := knot.Open(knot.Num(nil, make([]int, many)...))
	for range many {
		n.Num()
	}
	if !n.Whole() {
		t.Error("many numbers")
	}
}
