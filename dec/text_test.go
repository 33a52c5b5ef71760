package dec_test

import (
	"math/big"
	"strings"
	"testing"

	"dossier/api"
	"dossier/dec"
)

// P1.3
func TestText(t *testing.T) {
	for _, x := range []struct {
		v    api.Dec
		want string
	}{
		{d(0, 0), "0"},
		{d(7, 0), "7"},
		{d(-7, 0), "-7"},
		{d(10, 0), "10"},
		{d(25, 1), "2.5"},
		{d(-25, 1), "-2.5"},
		{d(5, 1), "0.5"},
		{d(-5, 1), "-0.5"},
		{d(5, 4), "0.0005"},
		{d(-5, 4), "-0.0005"},
		{d(1234, 4), "0.1234"},
		{d(10001, 4), "1.0001"},
		{d(-100001, 4), "-10.0001"},
		{d(101, 2), "1.01"},
		{d(123456789, 4), "12345.6789"},
		{d(999999999, 1), "99999999.9"},
		{d(-999999999, 4), "-99999.9999"},
		{d(1000000000, 0), "1000000000"},
		{d(-1000000000, 0), "-1000000000"},
	} {
		if s := dec.Text(x.v); s != x.want {
			t.Errorf("Text(%v) = %q", x.v, s)
		}
	}
}

// P1.3
func TestParse(t *testing.T) {
	for _, x := range []struct {
		s    string
		want api.Dec
		e    api.Errno
	}{
		{"0", d(0, 0), api.OK},
		{"7", d(7, 0), api.OK},
		{"-7", d(-7, 0), api.OK},
		{"10", d(10, 0), api.OK},
		{"2.5", d(25, 1), api.OK},
		{"-2.5", d(-25, 1), api.OK},
		{"0.0005", d(5, 4), api.OK},
		{"-0.0005", d(-5, 4), api.OK},
		{"1234567890.9876", api.Dec{}, api.ErrOver},
		{"123456.7890", d(123456789, 3), api.OK},

		// more noughts than Text writes
		{"007.50", d(75, 1), api.OK},
		{"-0", d(0, 0), api.OK},
		{"-0.0", d(0, 0), api.OK},
		{"00", d(0, 0), api.OK},
		{"10.0", d(10, 0), api.OK},

		// rounded
		{"1.00005", d(1, 0), api.OK},
		{"1.00015", d(10002, 4), api.OK},
		{"-1.00015", d(-10002, 4), api.OK},
		{"-1.00005", d(-1, 0), api.OK},
		{"1.00005001", d(10001, 4), api.OK},
		{"0.00000001", d(0, 0), api.OK},
		{"123456.78949", d(123456789, 3), api.OK},

		// the edges of what can be held
		{"1000000000", d(1000000000, 0), api.OK},
		{"-1000000000", d(-1000000000, 0), api.OK},
		{"1000000000.5", d(1000000000, 0), api.OK},
		{"-1000000000.5", d(-1000000000, 0), api.OK},
		{"1000000000.50000000", d(1000000000, 0), api.OK},
		{"1000000000.50000001", api.Dec{}, api.ErrOver},
		{"1000000001", api.Dec{}, api.ErrOver},
		{"-1000000001", api.Dec{}, api.ErrOver},
		{"999999999999999999", api.Dec{}, api.ErrOver},
		{"-999999999999999999", api.Dec{}, api.ErrOver},

		// 18 digits, 8 behind the point, and one more
		{"000000000000000001", d(1, 0), api.OK},
		{"0000000000000000001", api.Dec{}, api.ErrOver},
		{"-000000000000000001", d(-1, 0), api.OK},
		{"-0000000000000000001", api.Dec{}, api.ErrOver},
		{"0000000001.00000000", d(1, 0), api.OK},
		{"00000000001.00000000", api.Dec{}, api.ErrOver},
		{"000000000000000001.0", api.Dec{}, api.ErrOver},
		{"00000000000000001.5", d(15, 1), api.OK},
		{"1.00000000", d(1, 0), api.OK},
		{"1.000000000", api.Dec{}, api.ErrOver},
		{"-1.000000000", api.Dec{}, api.ErrOver},
		{"18446744073709551617", api.Dec{}, api.ErrOver},
	} {
		if v, e := dec.Parse(x.s); v != x.want || e != x.e {
			t.Errorf("Parse(%q) = %v, %d", x.s, v, e)
		}
	}
}

// P1.3
func TestParseNoDecimal(t *testing.T) {
	for _, s := range []string{
		"", "-", ".", "-.", "1.", "-1.", ".5", "-.5", "..", "1..2", "1.2.3", "1.2.", "1.-2",
		"+1", "+", "--1", "-+1", "1-", "1-2", "- 1", "1_0", "1,5", " 1", "1 ", "1 .5", "1. 5", "\t1", "1\n",
		"1e2", "1E2", "0x10", "a", "1a", "a1", "1.a", "1.5a", "NaN", "Inf", "-Inf",
		"\x00", "1\x00", "\xff", "1\xff", "1.\x80", "\u0663", "1\u0663", "\uff11", "\u22121", "1\uff0e5", "/", ":", "1/", "1:", "1./", "1.:",
	} {
		if v, e := dec.Parse(s); v != (api.Dec{}) || e != api.ErrForm {
			t.Errorf("Parse(%q) = %v, %d", s, v, e)
		}
	}
}

// P1.3, W4: what is no decimal is that, however many digits it has.
func TestParseFormAheadOfOver(t *testing.T) {
	long, behind := strings.Repeat("1", 19), strings.Repeat("1", 9)
	for _, s := range []string{
		long + "x", "x" + long, long + ".", long + "." + long + ".", long + ".x", "+" + long, "--" + long, long + " ",
		"1." + behind + "x", "1." + behind + ".", "." + behind, "-." + behind, "1." + behind + ".1",
		strings.Repeat("9", 1<<20) + "-", strings.Repeat("9", 1<<20) + ".",
	} {
		if v, e := dec.Parse(s); v != (api.Dec{}) || e != api.ErrForm {
			t.Errorf("Parse(%.40q) = %v, %d", s, v, e)
		}
	}
}

// P1.3, W1
func TestParseLong(t *testing.T) {
	many := strings.Repeat("0", 1<<20)
	for _, s := range []string{many, "-" + many, "1." + many, many + ".1", many + "." + many} {
		if v, e := dec.Parse(s); v != (api.Dec{}) || e != api.ErrOver {
			t.Errorf("Parse of %d bytes = %v, %d", len(s), v, e)
		}
	}
}

// P1.3: one byte that does not belong there, at every place.
func TestParseEveryByte(t *testing.T) {
	for i := range 4 {
		for c := range 256 {
			b := []byte("12.5")
			b[i] = byte(c)
			_, e := dec.Parse(string(b))
			fine := c >= '0' && c <= '9' || i == 2 && c == '.' || i == 0 && c == '-'
			if fine != (e == api.OK) || !fine && e != api.ErrForm {
				t.Errorf("Parse(%q): %d", b, e)
			}
		}
	}
}

// P1.3: Parse is Fit of what the text says.
func TestParseAgainstRationals(t *testing.T) {
	x := uint64(3)
	for range 20000 {
		x = x*6364136223846793005 + 1442695040888963407
		digits := new(big.Int).SetUint64(x >> 8).String()
		digits = digits[:1+int(x>>40)%len(digits)]
		cut := 1 + int(x>>50)%len(digits)
		s := digits[:cut]
		if cut < len(digits) {
			s += "." + digits[cut:]
		}
		if x>>63 == 1 {
			s = "-" + s
		}
		r, _ := new(big.Rat).SetString(s)
		want, e := fitted(r, 4)
		if len(digits)-cut > 8 {
			want, e = api.Dec{}, api.ErrOver
		}
		if v, g := dec.Parse(s); v != want || g != e {
			t.Errorf("Parse(%q) = %v, %d, not %v, %d", s, v, g, want, e)
		}
	}
}

// P1.4
func TestParseOfText(t *testing.T) {
	seen := map[string]api.Dec{}
	for _, v := range sample(20000) {
		s := dec.Text(v)
		if g, e := dec.Parse(s); g != v || e != api.OK {
			t.Errorf("Parse(%q) = %v, %d, not %v", s, g, e, v)
		}
		if r, ok := new(big.Rat).SetString(s); !ok || r.Cmp(rat(v)) != 0 {
			t.Errorf("Text(%v) = %q", v, s)
		}
		if w, ok := seen[s]; ok && w != v {
			t.Errorf("%v and %v are both %q", v, w, s)
		}
		seen[s] = v
	}
}

// P1.4: two that may be and are alike in value are one.
func TestOneByItsValue(t *testing.T) {
	all := sample(150)
	for _, a := range all {
		for _, b := range all {
			if (dec.Cmp(a, b) == 0) != (a == b) {
				t.Errorf("%v and %v", a, b)
			}
		}
	}
}
