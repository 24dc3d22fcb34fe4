package tests

import (
	"fmt"
	"math"
	"math/big"
	"slices"
	"strings"
	"testing"

	"loop.example/g00672/impl"
)

func TestWideOk(t *testing.T) {
	for _, w := range append(rightWides(), impl.Wide{}, impl.Wide{Limbs: []uint32{}}) {
		if !impl.WideOk(w) {
			t.Error("right", w.Neg, len(w.Limbs))
		}
	}
	for i, w := range wrongWides() {
		if impl.WideOk(w) {
			t.Error("wrong", i)
		}
	}
}

func TestWideOfSmallNumbers(t *testing.T) {
	ns := []int64{0, 1, -1, 2, -2, math.MaxInt32, math.MinInt32, math.MaxUint32, -math.MaxUint32, 1 << 32, -1 << 32, 1<<32 + 1, math.MaxInt64 - 1, math.MaxInt64, math.MinInt64, math.MinInt64 + 1}
	d := &dice{2}
	for i := range 500 {
		ns = append(ns, int64(d.next())>>(i%64))
	}
	for _, n := range ns {
		w := impl.WideOf(n)
		checkWide(t, fmt.Sprint("WideOf ", n), w, true, big.NewInt(n))
		if m, ok := impl.WideSmall(w); !ok || m != n {
			t.Error("WideSmall", n, m, ok)
		}
	}
}

func TestWideSmall(t *testing.T) {
	for _, w := range rightWides() {
		b := bigOf(w)
		n, ok := impl.WideSmall(w)
		want := int64(0)
		if b.IsInt64() {
			want = b.Int64()
		}
		if ok != b.IsInt64() || n != want {
			t.Error(b.BitLen(), b.Sign(), n, ok)
		}
	}
	for _, s := range []string{"8000000000000000", "-8000000000000001", "ffffffffffffffff", "-ffffffffffffffff", "10000000000000000", "-10000000000000000"} {
		b, _ := new(big.Int).SetString(s, 16)
		if n, ok := impl.WideSmall(wideOfBig(b)); ok || n != 0 {
			t.Error(s, n, ok)
		}
	}
}

func TestWideAddAndMul(t *testing.T) {
	for _, a := range append(rightWides(), impl.Wide{}) {
		for _, b := range append(rightWides(), impl.Wide{}) {
			x, y := bigOf(a), bigOf(b)
			what := fmt.Sprint(x.BitLen(), x.Sign(), y.BitLen(), y.Sign())
			s, ok := impl.WideAdd(a, b)
			checkWide(t, "WideAdd "+what, s, ok, new(big.Int).Add(x, y))
			p, ok := impl.WideMul(a, b)
			checkWide(t, "WideMul "+what, p, ok, new(big.Int).Mul(x, y))
			if c := impl.WideCmp(a, b); c != int64(x.Cmp(y)) {
				t.Error("WideCmp", what, c)
			}
		}
	}
}

func TestWideAddAtTheLimit(t *testing.T) {
	top := wideOfBig(greatestWide())
	one, less := impl.WideOf(1), impl.WideOf(-1)
	for _, r := range []struct {
		a, b impl.Wide
		ok   bool
	}{
		{top, impl.Wide{}, true},
		{top, less, true},
		{top, one, false},
		{one, top, false},
		{impl.WideNegated(top), one, true},
		{impl.WideNegated(top), less, false},
		{top, impl.WideNegated(top), true},
		{top, top, false},
		{wideOfBig(power(6399)), wideOfBig(power(6399)), false},
		{wideOfBig(power(6399)), wideOfBig(new(big.Int).Sub(power(6399), big.NewInt(1))), true},
	} {
		s, ok := impl.WideAdd(r.a, r.b)
		if ok != r.ok {
			t.Error(bigOf(r.a).BitLen(), bigOf(r.b).BitLen(), ok)
		}
		checkWide(t, "limit", s, ok, new(big.Int).Add(bigOf(r.a), bigOf(r.b)))
	}
}

func TestWideMulAtTheLimit(t *testing.T) {
	full := func(limbs uint) *big.Int { return new(big.Int).Sub(power(32*limbs), big.NewInt(1)) }
	for _, r := range []struct {
		a, b *big.Int
		ok   bool
	}{
		{full(100), full(100), true},
		{full(100), full(101), false},
		{power(3168), power(3200), true},
		{power(3199), power(3200), true},
		{power(3200), power(3200), false},
		{greatestWide(), big.NewInt(1), true},
		{greatestWide(), big.NewInt(-1), true},
		{greatestWide(), big.NewInt(2), false},
		{greatestWide(), greatestWide(), false},
		{greatestWide(), big.NewInt(0), true},
	} {
		p, ok := impl.WideMul(wideOfBig(r.a), wideOfBig(r.b))
		if ok != r.ok {
			t.Error(r.a.BitLen(), r.b.BitLen(), ok)
		}
		checkWide(t, "limit", p, ok, new(big.Int).Mul(r.a, r.b))
	}
}

func TestWideNegated(t *testing.T) {
	for _, w := range append(rightWides(), impl.Wide{}) {
		checkWide(t, "WideNegated", impl.WideNegated(w), true, new(big.Int).Neg(bigOf(w)))
	}
	if z := impl.WideNegated(impl.Wide{}); z.Neg || len(z.Limbs) != 0 {
		t.Error("0 has a sign", z)
	}
}

func shiftedBig(n *big.Int, by int64) *big.Int {
	if by >= 0 {
		return new(big.Int).Lsh(n, uint(by))
	}
	return new(big.Int).Quo(n, power(uint(-by)))
}

func TestWideShifted(t *testing.T) {
	ns := []int64{0, 1, 2, 31, 32, 33, 63, 64, 65, 100, 3199, 3200, 3201, 6367, 6368, 6398, 6399, 6400, 6401, 9999, 10000}
	d := &dice{3}
	for range 30 {
		ns = append(ns, int64(d.below(6500)))
	}
	for _, w := range append(rightWides(), impl.Wide{}) {
		for _, n := range ns {
			for _, by := range []int64{n, -n} {
				s, ok := impl.WideShifted(w, by)
				checkWide(t, fmt.Sprint("WideShifted ", bigOf(w).BitLen(), " by ", by), s, ok, shiftedBig(bigOf(w), by))
			}
		}
		room := 6400 - int64(bigOf(w).BitLen())
		for _, by := range []int64{room, room + 1} {
			s, ok := impl.WideShifted(w, by)
			checkWide(t, fmt.Sprint("WideShifted to the limit by ", by), s, ok, shiftedBig(bigOf(w), by))
		}
	}
}

func TestWideShiftedFarther(t *testing.T) {
	for _, w := range append(rightWides(), impl.Wide{}) {
		for _, by := range []int64{-10001, 10001, 1 << 32, -1 << 32, math.MinInt64, math.MaxInt64} {
			if s, ok := impl.WideShifted(w, by); ok || !wideIs(s, impl.Wide{}) {
				t.Error(by, ok)
			}
		}
	}
	for _, by := range []int64{-10000, 10000} {
		if s, ok := impl.WideShifted(impl.Wide{}, by); !ok || !wideIs(s, impl.Wide{}) {
			t.Error("0 by", by)
		}
	}
	if _, ok := impl.WideShifted(impl.WideOf(-1), 10000); ok {
		t.Error("10000 up fits")
	}
	if s, ok := impl.WideShifted(wideOfBig(new(big.Int).Neg(greatestWide())), -10000); !ok || !wideIs(s, impl.Wide{}) {
		t.Error("10000 down is not 0")
	}
}

func TestWideCutTowardsZero(t *testing.T) {
	for _, r := range [][3]int64{{-1, -1, 0}, {-3, -1, -1}, {3, -1, 1}, {-1 << 40, -41, 0}, {-1<<40 - 1, -40, -1}, {math.MinInt64, -63, -1}, {math.MinInt64, -64, 0}} {
		s, ok := impl.WideShifted(impl.WideOf(r[0]), r[1])
		checkWide(t, fmt.Sprint(r), s, ok, big.NewInt(r[2]))
	}
}

func TestBitLenAndLowZeros(t *testing.T) {
	for _, w := range append(rightWides(), impl.Wide{}) {
		b := bigOf(w)
		zeros := int64(b.TrailingZeroBits())
		if b.Sign() == 0 {
			zeros = -1
		}
		if impl.BitLen(w) != int64(b.BitLen()) || impl.LowZeros(w) != zeros {
			t.Error(b.BitLen(), impl.BitLen(w), zeros, impl.LowZeros(w))
		}
	}
}

func TestWideText(t *testing.T) {
	for _, w := range append(rightWides(), impl.Wide{}) {
		want := bigOf(w).Text(16)
		if got := impl.WideText(w); got != want {
			t.Errorf("got %q, want %q", got, want)
		}
		back, ok := impl.ReadWide(want)
		checkWide(t, "ReadWide", back, ok, bigOf(w))
	}
}

func TestReadWideOfNoText(t *testing.T) {
	long := strings.Repeat("f", 8*impl.MaxLimbs)
	for _, s := range []string{"", "-", "-0", "00", "01", "-01", "-00", "0f", "A", "F", "1A", "aF", "g", "1g", "G", " 1", "1 ", "1\n", "+1", "--1", "1-", "-1-", "0x1", "1.", "1_0", "\x00", "1\x00", "/", ":", "`", "@", "１", "٣", "1é", "é", "\xff", "1\xff", "\xc3", "-\x80", long + "f", "-" + long + "f", "1" + strings.Repeat("0", 8*impl.MaxLimbs), "0" + long, strings.Repeat("0", 5000), strings.Repeat("1", 100000), long[:1599] + "é", long[:1599] + " "} {
		if w, ok := impl.ReadWide(s); ok || !wideIs(w, impl.Wide{}) {
			t.Errorf("%.40q is read as %v", s, w)
		}
	}
	for _, s := range []string{long, "-" + long, "1" + strings.Repeat("0", 8*impl.MaxLimbs-1)} {
		if w, ok := impl.ReadWide(s); !ok || len(w.Limbs) != impl.MaxLimbs || impl.WideText(w) != s {
			t.Errorf("%.40q is not read", s)
		}
	}
}

func TestReadWideByEveryByte(t *testing.T) {
	for b := range 256 {
		s := "7" + string([]byte{byte(b)})
		_, ok := impl.ReadWide(s)
		if want := strings.IndexByte("0123456789abcdef", byte(b)) >= 0; ok != want {
			t.Errorf("%q %v", s, ok)
		}
	}
}

func TestWrongWides(t *testing.T) {
	for i, w := range wrongWides() {
		if n, ok := impl.WideSmall(w); n != 0 || ok {
			t.Error("WideSmall", i)
		}
		if n := impl.WideNegated(w); !wideIs(n, impl.Wide{}) {
			t.Error("WideNegated", i)
		}
		for _, by := range []int64{0, 1, -1, -32, -10000} {
			if s, ok := impl.WideShifted(w, by); ok || !wideIs(s, impl.Wide{}) {
				t.Error("WideShifted", i, by)
			}
		}
		if impl.BitLen(w) != -1 || impl.LowZeros(w) != -1 || impl.WideText(w) != "" {
			t.Error("BitLen, LowZeros, WideText", i)
		}
		for _, v := range append(wrongWides(), impl.Wide{}, impl.WideOf(1), impl.WideOf(-7), w) {
			checkRefusedPair(t, w, v)
			checkRefusedPair(t, v, w)
		}
	}
}

func checkRefusedPair(t *testing.T, a impl.Wide, b impl.Wide) {
	t.Helper()
	if s, ok := impl.WideAdd(a, b); ok || !wideIs(s, impl.Wide{}) {
		t.Error("WideAdd", s, ok)
	}
	if p, ok := impl.WideMul(a, b); ok || !wideIs(p, impl.Wide{}) {
		t.Error("WideMul", p, ok)
	}
	if impl.WideCmp(a, b) != 2 {
		t.Error("WideCmp", impl.WideCmp(a, b))
	}
}

func TestPromise1SumsAndProducts(t *testing.T) {
	l := append(rightWides(), impl.Wide{})
	for _, a := range l {
		for _, b := range l {
			s, ok := impl.WideAdd(a, b)
			r, again := impl.WideAdd(b, a)
			if ok != again || !wideIs(s, r) {
				t.Error("a sum hangs on its order")
			}
			if back, is := impl.WideAdd(s, impl.WideNegated(b)); ok && (!is || !wideIs(back, a)) {
				t.Error("what was added cannot be taken away")
			}
			p, ok := impl.WideMul(a, b)
			q, again := impl.WideMul(b, a)
			if ok != again || !wideIs(p, q) {
				t.Error("a product hangs on its order")
			}
		}
	}
}

func TestPromise1ShiftsAndTexts(t *testing.T) {
	for _, a := range append(rightWides(), impl.Wide{}) {
		for n := int64(0); n <= 6400; n += 7 {
			up, ok := impl.WideShifted(a, n)
			if !ok {
				break
			}
			if back, is := impl.WideShifted(up, -n); !is || !wideIs(back, a) {
				t.Error("what was shifted up does not come back", n)
			}
		}
		if back, ok := impl.ReadWide(impl.WideText(a)); !ok || !wideIs(back, a) {
			t.Error("a wide does not come back from its text")
		}
	}
}

// wideCalls is every call of the chapter that takes wides; those that answer none are one call.
func wideCalls(a impl.Wide, b impl.Wide) []func() impl.Wide {
	first := func(w impl.Wide, _ bool) impl.Wide { return w }
	return []func() impl.Wide{
		func() impl.Wide { return first(impl.WideAdd(a, b)) },
		func() impl.Wide { return first(impl.WideMul(a, b)) },
		func() impl.Wide { return impl.WideNegated(a) },
		func() impl.Wide { return first(impl.WideShifted(a, 0)) },
		func() impl.Wide { return first(impl.WideShifted(a, 32)) },
		func() impl.Wide { return first(impl.WideShifted(a, 5)) },
		func() impl.Wide { return first(impl.WideShifted(a, -32)) },
		func() impl.Wide { return first(impl.WideShifted(a, -5)) },
		func() impl.Wide {
			impl.WideOk(a)
			impl.WideSmall(a)
			impl.WideCmp(a, b)
			impl.BitLen(a)
			impl.LowZeros(a)
			impl.WideText(a)
			return impl.Wide{}
		},
	}
}

func TestWidesStayAsTheyWere(t *testing.T) {
	l := append(append(rightWides(), wrongWides()...), impl.Wide{}, impl.WideOf(5), impl.WideOf(-5))
	for i, a := range l {
		for _, b := range []impl.Wide{{}, impl.WideOf(1), impl.WideOf(-3), a, l[(i+1)%len(l)], l[(i*7+3)%len(l)]} {
			x, y := roomy(a), roomy(b)
			for k, call := range wideCalls(x, y) {
				got := call()
				if !untouched(x, a) || !untouched(y, b) {
					t.Fatal("an argument was written into", i, k)
				}
				was := impl.Wide{Neg: got.Neg, Limbs: slices.Clone(got.Limbs)}
				scribble(got)
				if !untouched(x, a) || !untouched(y, b) {
					t.Fatal("an answer shares memory with an argument", i, k)
				}
				if !wideIs(call(), was) {
					t.Fatal("another answer the second time", i, k)
				}
			}
		}
	}
}
