package tests

import (
	"fmt"
	"math/big"
	"regexp"
	"strconv"
	"strings"
	"testing"

	"loop.example/g00672/impl"
)

func (f form) digits(bits uint64) string { return fmt.Sprintf("%0*x", f.fm/4, bits) }

// text is what FloatText must answer, worked out apart from the program.
func (f form) text(bits uint64) string {
	sign := ""
	if bits&f.sign != 0 {
		sign = "-"
	}
	switch {
	case bits == f.nan:
		return "nan"
	case f.isNaN(bits):
		return "nan." + f.digits(bits)
	case !f.isFinite(bits):
		return sign + "inf"
	case f.isZero(bits):
		return sign + "0p0"
	}
	n := f.units(bits &^ f.sign)
	low := n.TrailingZeroBits()
	return sign + n.Rsh(n, low).String() + "p" + strconv.FormatInt(f.unit+int64(low), 10)
}

var (
	numberText = regexp.MustCompile(`^(-?)([1-9][0-9]*)p(0|-?[1-9][0-9]*)$`)
	wordText   = regexp.MustCompile(`^nan\.([0-9a-f]+)$`)
)

// read is what ReadFloat must answer, worked out apart from the program.
func (f form) read(s string) (uint64, bool) {
	switch s {
	case "0p0":
		return 0, true
	case "-0p0":
		return f.sign, true
	case "inf":
		return f.inf, true
	case "-inf":
		return f.sign | f.inf, true
	case "nan":
		return f.nan, true
	}
	if p := wordText.FindStringSubmatch(s); p != nil && int64(len(p[1])) == f.fm/4 {
		bits, _ := strconv.ParseUint(p[1], 16, 64)
		if !f.isNaN(bits) || bits == f.nan {
			return 0, false
		}
		return bits, true
	}
	p := numberText.FindStringSubmatch(s)
	if p == nil || len(p[3]) > 5 {
		return 0, false
	}
	m, _ := new(big.Int).SetString(p[1]+p[2], 10)
	e, _ := strconv.ParseInt(p[3], 10, 64)
	if m.Bit(0) == 0 || e > f.greatestE+int64(f.precision) || e < f.unit {
		return 0, false
	}
	bits, flags := f.rounded(impl.RmZero, exact{m, e})
	if flags != 0 {
		return 0, false
	}
	return bits, true
}

func checkText(t *testing.T, f form, bits uint64, text string) {
	t.Helper()
	if s := impl.FloatText(f.fm, bits); s != text {
		t.Errorf("%d: the text of %x is %q, want %q", f.fm, bits, s, text)
	}
	if x, ok := impl.ReadFloat(f.fm, text); !ok || x != bits {
		t.Errorf("%d: %q is read as %x %v, want %x", f.fm, text, x, ok, bits)
	}
}

func checkHex(t *testing.T, f form, bits uint64, digits string) {
	t.Helper()
	if s := impl.FloatHex(f.fm, bits); s != digits {
		t.Errorf("%d: the digits of %x are %q, want %q", f.fm, bits, s, digits)
	}
	if x, ok := impl.ReadHex(f.fm, digits); !ok || x != bits {
		t.Errorf("%d: %q is read as %x %v, want %x", f.fm, digits, x, ok, bits)
	}
}

func checkRead(t *testing.T, f form, s string) {
	t.Helper()
	want, is := f.read(s)
	if x, ok := impl.ReadFloat(f.fm, s); ok != is || x != want {
		t.Errorf("%d: %.60q is read as %x %v, want %x %v", f.fm, s, x, ok, want, is)
	}
}

func checkNoText(t *testing.T, fm int64, s string) {
	t.Helper()
	if x, ok := impl.ReadFloat(fm, s); ok || x != 0 {
		t.Errorf("%d: %.60q is read as %x %v", fm, s, x, ok)
	}
}

func checkNoHex(t *testing.T, fm int64, s string) {
	t.Helper()
	if x, ok := impl.ReadHex(fm, s); ok || x != 0 {
		t.Errorf("%d: %.60q is read as %x %v", fm, s, x, ok)
	}
}

func TestTextsByTable(t *testing.T) {
	for _, r := range []struct {
		f    form
		bits uint64
		text string
	}{
		{forms[0], 0, "0p0"}, {forms[0], 0x80000000, "-0p0"},
		{forms[0], 1, "1p-149"}, {forms[0], 0x80000001, "-1p-149"}, {forms[0], 2, "1p-148"}, {forms[0], 3, "3p-149"},
		{forms[0], 0x400000, "1p-127"}, {forms[0], 0x7fffff, "8388607p-149"}, {forms[0], 0x807ffffe, "-4194303p-148"},
		{forms[0], 0x800000, "1p-126"}, {forms[0], 0x800001, "8388609p-149"}, {forms[0], 0x3f800000, "1p0"}, {forms[0], 0xbf800000, "-1p0"},
		{forms[0], 0x3f7fffff, "16777215p-24"}, {forms[0], 0x3f800001, "8388609p-23"}, {forms[0], 0x41200000, "5p1"}, {forms[0], 0xc2c80000, "-25p2"},
		{forms[0], 0x7f000000, "1p127"}, {forms[0], 0x7f7fffff, "16777215p104"}, {forms[0], 0xff7fffff, "-16777215p104"}, {forms[0], 0x7f7ffffe, "8388607p105"},
		{forms[0], 0x7f800000, "inf"}, {forms[0], 0xff800000, "-inf"}, {forms[0], 0x7fc00000, "nan"}, {forms[0], 0xffc00000, "nan.ffc00000"},
		{forms[0], 0x7fc00001, "nan.7fc00001"}, {forms[0], 0x7f800001, "nan.7f800001"}, {forms[0], 0xffbfffff, "nan.ffbfffff"}, {forms[0], 0xffffffff, "nan.ffffffff"},
		{forms[1], 0, "0p0"}, {forms[1], 1 << 63, "-0p0"},
		{forms[1], 1, "1p-1074"}, {forms[1], 1<<63 | 1, "-1p-1074"}, {forms[1], 4, "1p-1072"}, {forms[1], 1<<52 - 1, "4503599627370495p-1074"},
		{forms[1], 1 << 52, "1p-1022"}, {forms[1], 1<<52 | 1, "4503599627370497p-1074"}, {forms[1], 0x3ff0000000000000, "1p0"},
		{forms[1], 0x3fb999999999999a, "3602879701896397p-55"}, {forms[1], 0xc059000000000000, "-25p2"}, {forms[1], 0x3fefffffffffffff, "9007199254740991p-53"},
		{forms[1], 0x7fe0000000000000, "1p1023"}, {forms[1], 0x7fefffffffffffff, "9007199254740991p971"}, {forms[1], 0xffefffffffffffff, "-9007199254740991p971"},
		{forms[1], 0x7ff0000000000000, "inf"}, {forms[1], 0xfff0000000000000, "-inf"}, {forms[1], 0x7ff8000000000000, "nan"}, {forms[1], 0xfff8000000000000, "nan.fff8000000000000"},
		{forms[1], 0x7ff8000000000001, "nan.7ff8000000000001"}, {forms[1], 0x7ff0000000000001, "nan.7ff0000000000001"}, {forms[1], 0xfff7ffffffffffff, "nan.fff7ffffffffffff"},
	} {
		checkText(t, r.f, r.bits, r.text)
	}
}

func TestHexByTable(t *testing.T) {
	for _, r := range []struct {
		f      form
		bits   uint64
		digits string
	}{
		{forms[0], 0, "00000000"}, {forms[0], 0x80000000, "80000000"}, {forms[0], 0xbeef, "0000beef"}, {forms[0], 0x89abcdef, "89abcdef"}, {forms[0], 0xffffffff, "ffffffff"},
		{forms[0], 0x7f800000, "7f800000"}, {forms[0], 0x7fc00000, "7fc00000"}, {forms[0], 0xff800001, "ff800001"},
		{forms[1], 0, "0000000000000000"}, {forms[1], 1 << 63, "8000000000000000"}, {forms[1], 0x7fc00000, "000000007fc00000"}, {forms[1], 0xfedcba9876543210, "fedcba9876543210"},
		{forms[1], 0xffffffffffffffff, "ffffffffffffffff"}, {forms[1], 0x7ff8000000000000, "7ff8000000000000"}, {forms[1], 0xfff0000000000001, "fff0000000000001"},
	} {
		checkHex(t, r.f, r.bits, r.digits)
	}
}

func TestPromise5(t *testing.T) {
	for _, f := range forms {
		texts := map[string]uint64{}
		for _, bits := range append(f.floats(), f.edges()...) {
			s := impl.FloatText(f.fm, bits)
			if x, ok := impl.ReadFloat(f.fm, s); !ok || x != bits {
				t.Errorf("%d: %x does not come back from its text %q: %x", f.fm, bits, s, x)
			}
			if other, is := texts[s]; is && other != bits {
				t.Errorf("%d: %x and %x have one text, %q", f.fm, bits, other, s)
			}
			texts[s] = bits
			s = impl.FloatHex(f.fm, bits)
			if x, ok := impl.ReadHex(f.fm, s); !ok || x != bits {
				t.Errorf("%d: %x does not come back from its digits %q: %x", f.fm, bits, s, x)
			}
		}
	}
}

func TestTextsOfAny(t *testing.T) {
	for _, f := range forms {
		for _, bits := range append(f.floats(), f.edges()...) {
			checkText(t, f, bits, f.text(bits))
			checkHex(t, f, bits, f.digits(bits))
		}
	}
}

// Both of subnormal and of normal floats: M is even as it stands, but for the first step.
func TestTextsWithMMadeOdd(t *testing.T) {
	for _, f := range forms {
		normal := uint64(1) << (f.precision - 1)
		for low := range f.precision {
			for _, m := range []uint64{1, 3, normal>>low | 1, (normal-1)>>low | 1} {
				bits := m << low
				if bits >= 2*normal {
					continue
				}
				// Below 2 to the P the bits are the units.
				text := fmt.Sprintf("%dp%d", m, f.unit+int64(low))
				checkText(t, f, bits, text)
				checkText(t, f, bits|f.sign, "-"+text)
			}
		}
	}
}

func TestReadFloatOfNoText(t *testing.T) {
	for _, f := range forms {
		for _, s := range []string{
			"", "-", "--", "p", "-p", "1p", "p1", "-1p", "1p-", "-p-", "1", "0", "-0", "1-p0", "1p1-", "--1p0", "1p--1", "1pp1", "1p1p1", "1P0", "1p0p",
			"2p0", "-2p0", "4p-3", "10p1", "16777216p0", "0p1", "0p-1", "-0p1", "0p-149", "0p-1074", "00p0", "0p00", "0p-0", "-0p-0", "--0p0",
			"01p0", "-01p0", "001p0", "1p01", "1p-01", "1p00", "1p-0", "-1p-0", "+1p0", "1p+1", "1p+0", "-+1p0", "+0p0", "+inf", "+nan",
			"-nan", "--inf", "nan-", "inf-", "Inf", "INF", "NaN", "NAN", "infinity", "in", "na", "i", "n", "inf0", "inf.", "inf.7f800000", "nan0", "nan ", " nan", "nann", "nannan",
			" 1p0", "1p0 ", "1 p0", "1p 0", "1p0\n", "\t1p0", "1p0\x00", "\x001p0", "inf ", " inf", "-inf ", "- 1p0", "- inf",
			"0x1p0", "ap0", "1pa", "1.0p0", "1.5p0", "1e0", "1_1p0", "1,1p0", "１p0", "1p１", "٣p0", "é", "1ép0", "\xff", "1\xffp0", "1p\xc3", "\x80p0",
			"12345678901234567p0", "-12345678901234567p0", "9999999999999999p0", "9007199254740993p0", "10000000000000001p0", "1p12345678901234567", "1p-12345678901234567",
			"1p9999999999999999", "1p-9999999999999999", "1p18446744073709551616", "18446744073709551617p0", "1p-18446744073709551616", "9223372036854775807p0", "1p9223372036854775807", "1p-9223372036854775808",
			"1p5000", "1p5001", "1p-5000", "1p-5001", "1p1024", "1p-1075", "3p1023", "9007199254740991p972",
			"1p" + strings.Repeat("1", 100000), strings.Repeat("1", 100000) + "p0", strings.Repeat("0", 100000) + "1p0", strings.Repeat("-", 1000), "nan." + strings.Repeat("f", 100000),
		} {
			checkNoText(t, f.fm, s)
			if _, is := f.read(s); is {
				t.Errorf("%q is the text of a float", s)
			}
		}
	}
}

func TestReadFloatOfNoNaN(t *testing.T) {
	for _, f := range forms {
		for _, bits := range []uint64{f.nan, 0, f.sign, 1, f.one(), f.sign | f.one(), f.greatest, f.sign | f.greatest, f.inf, f.sign | f.inf} {
			checkNoText(t, f.fm, "nan."+f.digits(bits))
		}
		for _, bits := range []uint64{f.nan + 1, f.inf + 1, f.all, f.sign | f.nan, f.sign | (f.inf + 1)} {
			d := f.digits(bits)
			checkText(t, f, bits, "nan."+d)
			for _, s := range []string{"nan" + d, "nan.." + d, "-nan." + d, "nan.-" + d, "nan.+" + d, "nan." + d[1:], "nan." + d[:len(d)-1], "nan." + d + "0", "nan.0" + d, "nan." + strings.ToUpper(d), "nan." + d + " ", "nan. " + d, "nan.0x" + d, "nan." + d[:len(d)-1] + "g", "nan." + d[:len(d)-2] + "é", d, "." + d, "NaN." + d, "inf." + d} {
				checkNoText(t, f.fm, s)
			}
		}
		checkNoText(t, f.fm, "nan.")
	}
}

func TestReadFloatOfTheOtherFormat(t *testing.T) {
	for _, s := range []string{"1p-150", "1p-1074", "1p128", "1p1023", "16777217p0", "-16777217p0", "9007199254740991p0", "16777215p105", "3602879701896397p-55", "3p127", "16777217p-149", "nan.7ff8000000000001", "nan.fff8000000000000", "nan.7ff0000000000001"} {
		checkNoText(t, 32, s)
		checkRead(t, forms[1], s)
		if x, ok := impl.ReadFloat(64, s); !ok || impl.FloatText(64, x) != s {
			t.Errorf("%q is read as %x %v", s, x, ok)
		}
	}
	for _, s := range []string{"nan.7fc00001", "nan.ffc00000", "nan.7f800001"} {
		checkNoText(t, 64, s)
		checkRead(t, forms[0], s)
	}
	// Every finite text of format 32 is one of format 64, of the same value.
	for _, bits := range forms[0].floats() {
		if f := forms[0]; f.isFinite(bits) {
			wide := forms[1].fromFloat(f.value(bits))
			checkText(t, forms[1], wide, f.text(bits))
		}
	}
}

// Each text of a float with one byte gone, one more or another one; most of these are no texts, and some are those of other floats.
func TestReadFloatWithAByteTurned(t *testing.T) {
	const bytes = "0123459-+.pinfaAxPI \x00\xc3"
	for _, f := range forms {
		l := append(f.corners(), f.floats()[100:120]...)
		for _, bits := range l {
			s := f.text(bits)
			for i := range len(s) + 1 {
				for _, b := range []byte(bytes) {
					for _, g := range forms {
						checkRead(t, g, s[:i]+string([]byte{b})+s[i:])
						if i < len(s) {
							checkRead(t, g, s[:i]+string([]byte{b})+s[i+1:])
						}
					}
				}
				if i < len(s) {
					checkRead(t, f, s[:i]+s[i+1:])
				}
			}
		}
	}
}

func TestReadFloatOfAllShortTexts(t *testing.T) {
	const bytes = "0123-+p.n"
	level := []string{""}
	for range 5 {
		var next []string
		for _, s := range level {
			for _, b := range bytes {
				next = append(next, s+string(b))
			}
		}
		for _, s := range next {
			checkRead(t, forms[0], s)
			checkRead(t, forms[1], s)
		}
		level = next
	}
}

func TestReadHexOfNoDigits(t *testing.T) {
	for _, f := range forms {
		d := f.digits(f.one())
		for _, s := range []string{"", d[1:], d[:len(d)-1], d + "0", "0" + d, d + d, d + d + d + d, " " + d[1:], d[1:] + " ", "-" + d[1:], "+" + d[1:], "0x" + d[2:], d[2:] + "é", "é" + d[2:], d[1:] + "\xff", d[1:] + "\x00", d[1:] + "\n", strings.ToUpper(f.digits(f.nan)), f.text(f.one()), "nan", "inf", strings.Repeat("0", 100000)} {
			checkNoHex(t, f.fm, s)
		}
		for b := range 256 {
			for _, i := range []int{0, 1, len(d) - 1} {
				s := d[:i] + string([]byte{byte(b)}) + d[i+1:]
				want, err := strconv.ParseUint(s, 16, 64)
				is := err == nil && strings.IndexByte("0123456789abcdef", byte(b)) >= 0
				if !is {
					want = 0
				}
				if x, ok := impl.ReadHex(f.fm, s); ok != is || x != want {
					t.Errorf("%d: %q is read as %x %v", f.fm, s, x, ok)
				}
			}
		}
	}
	checkNoHex(t, 32, "3ff0000000000000")
	checkNoHex(t, 32, "000000003f800000")
	checkNoHex(t, 64, "3f800000")
}

func TestTextsRefuse(t *testing.T) {
	for _, f := range forms {
		for _, bits := range f.notFloats() {
			if impl.FloatText(f.fm, bits) != "" || impl.FloatHex(f.fm, bits) != "" {
				t.Errorf("%d: %x has a text", f.fm, bits)
			}
		}
	}
	for _, fm := range noFormats {
		for _, f := range forms {
			for _, bits := range f.corners() {
				if impl.FloatText(fm, bits) != "" || impl.FloatHex(fm, bits) != "" {
					t.Errorf("%d: %x has a text", fm, bits)
				}
				checkNoText(t, fm, f.text(bits))
				checkNoHex(t, fm, f.digits(bits))
			}
		}
		for _, s := range []string{"", "0", "00", "0000", "nan", "nan.", "inf", "-inf", "0p0"} {
			checkNoText(t, fm, s)
			checkNoHex(t, fm, s)
		}
	}
}
