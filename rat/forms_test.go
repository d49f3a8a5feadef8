package rat_test

import (
	"cmp"
	"math/big"
	"regexp"
	"strconv"
	"strings"
	"testing"

	"abugida/api"
	"abugida/rat"
)

// P3.1: the examples, and the limit of 400 digits.
func TestValid(t *testing.T) {
	for _, a := range append(samples(), "3", "-3/4", "0", nines(400), "-"+nines(400), "1/"+nines(400), "-"+nines(400)+"/"+long(400)) {
		if !rat.Valid(a) {
			t.Errorf("Valid(%q) = false", a)
		}
	}
	for _, a := range wrong() {
		if rat.Valid(a) {
			t.Errorf("Valid(%.50q) = true, of %d bytes", a, len(a))
		}
	}
}

// P3.1: all short strings of the bytes of canonical forms and some others.
func TestValidAll(t *testing.T) {
	want := map[string]bool{}
	for n := range 10000 {
		for d := 1; d < 1000 && len(strconv.Itoa(n))+len(strconv.Itoa(d)) < 6; d++ {
			if a := big.NewRat(int64(n), int64(d)).RatString(); a == strconv.Itoa(n) || strings.HasPrefix(a, strconv.Itoa(n)+"/") {
				want[a] = true
				want["-"+a] = n > 0
			}
		}
	}
	eachString("-/.0123469", 5, func(a string) {
		if strings.Trim(a, "0123456789") == "" && len(a) == 5 {
			want[a] = a[0] != '0'
		}
		if rat.Valid(a) != want[a] {
			t.Fatalf("Valid(%q) = %t", a, !want[a])
		}
	})
}

// P3.1: the sign, the numerator and the denominator.
func TestParts(t *testing.T) {
	check := func(a string, negative bool, num, den string) {
		t.Helper()
		if n, x, y, ok := rat.Parts(a); n != negative || x != num || y != den || !ok {
			t.Errorf("Parts(%s) = %t, %s, %s, %t", a, n, x, y, ok)
		}
	}
	check("-3/4", true, "3", "4")
	check("3/4", false, "3", "4")
	check("5", false, "5", "1")
	check("-5", true, "5", "1")
	check("0", false, "0", "1")
	check("-"+nines(400)+"/"+long(400), true, nines(400), long(400))
	for _, a := range samples() {
		x := of(t, a)
		check(a, x.Sign() < 0, new(big.Int).Abs(x.Num()).String(), x.Denom().String())
	}
	for _, a := range wrong() {
		if n, x, y, ok := rat.Parts(a); n || x != "" || y != "" || ok {
			t.Errorf("Parts(%.50q) = %t, %.50q, %.50q, %t", a, n, x, y, ok)
		}
	}
}

// P3.2: the examples, the limit, and what is not a fraction.
func TestMake(t *testing.T) {
	for _, x := range []struct {
		negative bool
		num, den string
		a        string
		e        api.Errno
	}{
		{true, "6", "4", "-3/2", api.OK},
		{false, "6", "4", "3/2", api.OK},
		{true, "0", "5", "0", api.OK},
		{false, "0", nines(1000), "0", api.OK},
		{false, "1", "0", "", api.ErrArg},
		{true, "0", "0", "", api.ErrArg},
		{false, nines(1000), "0", "", api.ErrArg},
		{false, "6", "3", "2", api.OK},
		{true, "6", "3", "-2", api.OK},
		{true, "7", "7", "-1", api.OK},
		{false, "3", "1", "3", api.OK},
		{true, nines(400), "1", "-" + nines(400), api.OK},
		{true, nines(401), "1", "", api.ErrLong},
		{false, "1", nines(400), "1/" + nines(400), api.OK},
		{false, "1", nines(401), "", api.ErrLong},
		{false, nines(400), long(400), nines(400) + "/" + long(400), api.OK},
		{false, nines(401), long(400), "", api.ErrLong},
		{false, nines(400), long(401), "", api.ErrLong},
		{false, long(401), "10", long(400), api.OK},
		{false, "10", long(401), "1/" + long(400), api.OK},
		{true, nines(1000), nines(1000), "-1", api.OK},
		{true, long(1000), long(601), "-" + long(400), api.OK},
		{true, long(1000), long(600), "", api.ErrLong},
		{true, long(601), long(1000), "-1/" + long(400), api.OK},
		{true, long(600), long(1000), "", api.ErrLong},
		{false, nines(1000), "1", "", api.ErrLong},
		{false, nines(1001), "1", "", api.ErrArg},
		{false, "1", nines(1001), "", api.ErrArg},
		{false, nines(1001), nines(1001), "", api.ErrArg},
	} {
		if a, e := rat.Make(x.negative, x.num, x.den); a != x.a || e != x.e {
			t.Errorf("Make(%t, %s, %s) = %q, %v", x.negative, x.num, x.den, a, e)
		}
	}
	for _, a := range []string{"", "-1", "-0", "01", "00", "+1", "1/2", "1.0", "a", "1 ", "\xff", "\u0661"} {
		for _, b := range []string{"0", "1", "5", nines(1000), a} {
			if c, e := rat.Make(true, a, b); c != "" || e != api.ErrArg {
				t.Errorf("Make(true, %q, %.50q) = %q, %v", a, b, c, e)
			}
			if c, e := rat.Make(false, b, a); c != "" || e != api.ErrArg {
				t.Errorf("Make(false, %.50q, %q) = %q, %v", b, a, c, e)
			}
		}
	}
}

// P3.2: the fraction is in lowest terms, whatever the numbers have in common.
func TestMakeAll(t *testing.T) {
	s := newSeries(3)
	check := func(num, den string) {
		x := of(t, num+"/"+den)
		want, none := written(x)
		if a, e := rat.Make(false, num, den); a != want || e != none {
			t.Fatalf("Make(false, %s, %s) = %s, %v", num, den, a, e)
		}
		want, none = written(x.Neg(x))
		if a, e := rat.Make(true, num, den); a != want || e != none {
			t.Fatalf("Make(true, %s, %s) = %s, %v", num, den, a, e)
		}
	}
	for n := range 60 {
		for d := 1; d < 60; d++ {
			check(strconv.Itoa(n), strconv.Itoa(d))
		}
	}
	for range 300 {
		f, _ := new(big.Int).SetString(s.natural(1+s.IntN(500)), 10)
		num, _ := new(big.Int).SetString(s.natural(1+s.IntN(450)), 10)
		den, _ := new(big.Int).SetString(s.natural(1+s.IntN(450)), 10)
		check(num.Mul(num, f).String(), den.Mul(den, f).String())
	}
}

// P3.3: the examples, and the edges of the form and of both limits.
func TestParse(t *testing.T) {
	for _, x := range []struct {
		text string
		a    string
		e    api.Errno
	}{
		{"-0.250", "-1/4", api.OK},
		{"007", "7", api.OK},
		{"6/8", "3/4", api.OK},
		{"-1.50", "-3/2", api.OK},
		{"-006/009", "-2/3", api.OK},
		{"0", "0", api.OK},
		{"-0", "0", api.OK},
		{"-00.000", "0", api.OK},
		{"-0/7", "0", api.OK},
		{"0/0007", "0", api.OK},
		{"12.0", "12", api.OK},
		{"0.1", "1/10", api.OK},
		{"00.012", "3/250", api.OK},
		{"3.1416", "3927/1250", api.OK},
		{"1.", "", api.ErrForm},
		{"/2", "", api.ErrForm},
		{"1/00", "", api.ErrForm},
		{"+1", "", api.ErrForm},
		{zeros(899) + "5", "5", api.OK},
		{zeros(900) + "5", "", api.ErrLong},
		{"-" + zeros(898) + "5", "-5", api.OK},
		{"-" + zeros(899) + "5", "", api.ErrLong},
		{"5." + zeros(898), "5", api.OK},
		{"5." + zeros(899), "", api.ErrLong},
		{"5/" + zeros(897) + "5", "1", api.OK},
		{"5/" + zeros(898) + "5", "", api.ErrLong},
		{nines(400), nines(400), api.OK},
		{nines(401), "", api.ErrLong},
		{"-" + nines(400) + "." + zeros(498), "-" + nines(400), api.OK},
		{"0." + zeros(398) + "1", "1/" + long(400), api.OK},
		{"0." + zeros(399) + "1", "", api.ErrLong},
		{"-0." + zeros(398) + "5", "-1/2" + zeros(398), api.OK},
		{"0." + zeros(399) + "5", "1/2" + zeros(399), api.OK},
		{"0." + zeros(400) + "5", "", api.ErrLong},
		{long(450) + "/" + long(449), "10", api.OK},
		{long(449) + "/" + long(449) + "0", "1/10", api.OK},
		{"1/" + nines(400), "1/" + nines(400), api.OK},
		{"1/" + nines(401), "", api.ErrLong},
		{nines(899), "", api.ErrLong},
		{nines(1000), "", api.ErrLong},
		{nines(5000) + "/" + nines(5000), "", api.ErrLong},
		{nines(5000) + "/" + zeros(5000), "", api.ErrForm},
		{nines(5000) + "x", "", api.ErrForm},
		{nines(5000) + ".", "", api.ErrForm},
	} {
		if a, e := rat.Parse(x.text); a != x.a || e != x.e {
			t.Errorf("Parse(%s) = %q, %v", x.text, a, e)
		}
	}
}

// P3.3: what is not a numeral.
func TestParseWrong(t *testing.T) {
	for _, text := range []string{"", "-", ".", "/", "-.", "-/", ".5", "-.5", "5.", "5/", "-5/", "--5", "5-", "1/-2", "1.-2", "1/+2", "1.2.3", "1/2/3", "1.2/3", "1/2.3", "1/0", "0/0", "-1/000", " 1", "1 ", "1\n", "- 1", "1 /2", "1e3", "1_0", "0x1", "1,5", "a", "1a", "a/2", "1/a", "1.a", "inf", "1\x00", "\xff", "1\xb1", "\u0661", "\uff11", "1\u20442", "\u22121", strings.Repeat("-", 2000), strings.Repeat("1/", 2000)} {
		if a, e := rat.Parse(text); a != "" || e != api.ErrForm {
			t.Errorf("Parse(%.50q) = %q, %v", text, a, e)
		}
	}
}

// P3.3: all short strings of the bytes of numerals and some others.
func TestParseAll(t *testing.T) {
	numeral := regexp.MustCompile(`^(-?)([0-9]+)(?:/(0*[1-9][0-9]*)|\.([0-9]+))?$`)
	check := func(text string) {
		want, none := "", api.ErrForm
		if m := numeral.FindStringSubmatch(text); m != nil {
			num, _ := new(big.Int).SetString(m[1]+m[2]+m[4], 10)
			den, _ := new(big.Int).SetString(cmp.Or(m[3], long(len(m[4])+1)), 10)
			want, none = written(new(big.Rat).SetFrac(num, den))
		}
		if a, e := rat.Parse(text); a != want || e != none {
			t.Fatalf("Parse(%q) = %q, %v", text, a, e)
		}
	}
	eachString("-/.+0159:", 6, check)
	s := newSeries(4)
	for range 500 {
		for _, sign := range []string{"", "/", "."} {
			check(zeros(s.IntN(20)) + s.natural(1+s.IntN(420)) + sign + zeros(s.IntN(20)) + s.natural(1+s.IntN(420)))
		}
	}
	for _, a := range samples() {
		if b, e := rat.Parse(a); b != a || e != api.OK {
			t.Errorf("Parse(%s) = %s, %v", a, b, e)
		}
	}
}
