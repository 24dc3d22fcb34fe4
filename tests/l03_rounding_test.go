package tests

import (
	"math"
	"math/big"
	"testing"

	"loop.example/g00672/impl"
)

var modes = []int64{impl.RmEven, impl.RmZero, impl.RmUp, impl.RmDown, impl.RmAway, impl.RmTies}

var noModes = []int64{-1, 6, 7, 8, -6, 1 << 32, 1<<32 + 1, -1 << 32, math.MinInt64, math.MaxInt64}

// exact is n times 2 to the e.
type exact struct {
	n *big.Int
	e int64
}

func exactOf(n int64, e int64) exact { return exact{big.NewInt(n), e} }

func (x exact) negated() exact { return exact{new(big.Int).Neg(x.n), x.e} }

// finer is the same value, with an e that is so much less.
func (x exact) finer(by int64) exact {
	return exact{new(big.Int).Lsh(x.n, uint(by)), x.e - by}
}

func (x exact) cmp(y exact) int {
	e := min(x.e, y.e)
	return x.finer(x.e - e).n.Cmp(y.finer(y.e - e).n)
}

func (x exact) minus(y exact) exact {
	e := min(x.e, y.e)
	return exact{new(big.Int).Sub(x.finer(x.e-e).n, y.finer(y.e-e).n), e}
}

func (x exact) abs() exact { return exact{new(big.Int).Abs(x.n), x.e} }

func (f form) exactOf(bits uint64) exact { return exact{f.units(bits), f.unit} }

// fits is true for what can be asked of Rounded.
func (x exact) fits() bool {
	return x.n.BitLen() <= 32*impl.MaxLimbs && x.e >= -10000 && x.e <= 10000
}

// farther tells for each mode, by the chapter's words, whether what lies between two steps goes to the one farther from 0.
func farther(mode int64, neg bool, odd bool, half int) bool {
	switch mode {
	case impl.RmEven:
		return half > 0 || half == 0 && odd
	case impl.RmUp:
		return !neg
	case impl.RmDown:
		return neg
	case impl.RmAway:
		return half >= 0
	case impl.RmTies:
		return half > 0
	}
	return false
}

// steps is how many whole steps of 2 to the e a value is, without its sign, rounded by the mode, and whether it is just that.
func (x exact) steps(mode int64, e int64) (*big.Int, bool) {
	if x.e > e {
		x = x.finer(x.e - e)
	}
	one := power(uint(e - x.e))
	m, rest := new(big.Int).QuoRem(new(big.Int).Abs(x.n), one, new(big.Int))
	if rest.Sign() == 0 {
		return m, true
	}
	half := rest.Lsh(rest, 1).Cmp(one)
	if farther(mode, x.n.Sign() < 0, m.Bit(0) == 1, half) {
		m.Add(m, big.NewInt(1))
	}
	return m, false
}

// rounded is what Rounded must answer, worked out apart from the program.
func (f form) rounded(mode int64, x exact) (uint64, int64) {
	if x.n.Sign() == 0 {
		return 0, 0
	}
	var sign uint64
	if x.n.Sign() < 0 {
		sign = f.sign
	}
	least := exactOf(1, f.unit+int64(f.precision)-1)
	tiny := x.abs().cmp(least) < 0
	e := f.unit
	for !tiny && x.abs().cmp(exactOf(1, e+int64(f.precision))) >= 0 {
		e = max(e+1, int64(x.n.BitLen())+x.e-int64(f.precision)-2)
	}
	m, same := x.steps(mode, e)
	if (exact{m, e}).cmp(f.exactOf(f.greatest)) > 0 {
		if farther(mode, sign != 0, false, 1) {
			return sign | f.inf, impl.FlInexact | impl.FlOverflow
		}
		return sign | f.greatest, impl.FlInexact | impl.FlOverflow
	}
	v, _ := new(big.Float).SetMantExp(new(big.Float).SetInt(m), int(e)).Float64()
	bits := f.fromFloat(v)
	switch {
	case same:
		return sign | bits, 0
	case tiny:
		return sign | bits, impl.FlInexact | impl.FlUnderflow
	}
	return sign | bits, impl.FlInexact
}

func checkRounded(t *testing.T, f form, mode int64, x exact) {
	t.Helper()
	bits, flags, ok := impl.Rounded(f.fm, mode, wideOfBig(x.n), x.e)
	want, told := f.rounded(mode, x)
	if !ok || bits != want || flags != told {
		t.Errorf("%d mode %d, %x times 2 to the %d: %x %d %v, want %x %d", f.fm, mode, x.n, x.e, bits, flags, ok, want, told)
	}
}

// beside: a float's own value, what is halfway to the next one, and what lies just beside both, in the units of the finer e.
func (f form) beside(bits uint64, finer int64) []exact {
	here := f.exactOf(bits)
	next := exactOf(1, f.greatestE+int64(f.precision))
	if bits != f.greatest {
		next = f.exactOf(bits + 1)
	}
	a, b := here.finer(finer).n, next.finer(next.e-here.e+finer).n
	half := new(big.Int).Add(a, b)
	half.Rsh(half, 1)
	var l []exact
	for _, n := range []*big.Int{a, half} {
		for d := int64(-1); d <= 1; d++ {
			x := exact{new(big.Int).Add(n, big.NewInt(d)), here.e - finer}
			// As short as can be, so that e is near E.
			for x.n.Sign() != 0 && x.n.Bit(0) == 0 && x.e < here.e {
				x = exact{new(big.Int).Rsh(x.n, 1), x.e + 1}
			}
			l = append(l, x, x.negated())
		}
	}
	return l
}

// edges: floats above 0 at which something changes.
func (f form) edges() []uint64 {
	normal := uint64(1) << (f.precision - 1)
	l := []uint64{0, 1, 2, 3, 4, normal/2 - 1, normal / 2, normal - 2, normal - 1, normal, normal + 1, 2*normal - 2, 2*normal - 1, 2 * normal, 2*normal + 1, 3*normal - 1, 3 * normal}
	return append(l, f.greatest-normal, f.greatest-2, f.greatest-1, f.greatest)
}

// numbers: values round about all edges, and round about floats of any exponent.
func (f form) numbers() []exact {
	l := f.edges()
	d := &dice{uint64(f.fm) + 7}
	for range 60 {
		if x := d.next() & (f.sign - 1); x < f.inf {
			l = append(l, x)
		}
	}
	var xs []exact
	for _, x := range l {
		for _, finer := range []int64{1, 2, 3, 40} {
			xs = append(xs, f.beside(x, finer)...)
		}
	}
	return xs
}

func TestRounded(t *testing.T) {
	for _, f := range forms {
		for _, x := range f.numbers() {
			for _, mode := range modes {
				checkRounded(t, f, mode, x)
			}
		}
	}
}

func TestRoundedOfAnyWides(t *testing.T) {
	d := &dice{31}
	for _, f := range forms {
		for range 6000 {
			n := new(big.Int)
			for range 1 + d.below(5) {
				n.Lsh(n, 32).Or(n, big.NewInt(int64(uint32(d.next()))))
			}
			n.Rsh(n, uint(d.below(130)))
			if d.below(2) == 0 {
				n.Neg(n)
			}
			near := f.unit - 150 + int64(d.below(int(f.greatestE-f.unit)+250))
			checkRounded(t, f, modes[d.below(6)], exact{n, near})
		}
	}
}

// The nearest one is held against Go's own way from great numbers to floats, too.
func TestRoundedToEvenAsGoDoes(t *testing.T) {
	for _, f := range forms {
		for _, x := range f.numbers() {
			if x.n.Sign() == 0 {
				continue
			}
			great := new(big.Float).SetMantExp(new(big.Float).SetInt(x.n), int(x.e))
			wide, _ := great.Float64()
			narrow, _ := great.Float32()
			want := math.Float64bits(wide)
			if f.fm == 32 {
				want = uint64(math.Float32bits(narrow))
			}
			if bits, _, ok := impl.Rounded(f.fm, impl.RmEven, wideOfBig(x.n), x.e); !ok || bits != want {
				t.Errorf("%d %x times 2 to the %d: %x, Go has %x", f.fm, x.n, x.e, bits, want)
			}
		}
	}
}

func TestRoundedHalves(t *testing.T) {
	// Of each mode: what comes of -1.5, -0.5, 0.5 and 1.5 units, in units.
	want := map[int64][4]uint64{
		impl.RmEven: {2, 0, 0, 2},
		impl.RmZero: {1, 0, 0, 1},
		impl.RmUp:   {1, 0, 1, 2},
		impl.RmDown: {2, 1, 0, 1},
		impl.RmAway: {2, 1, 1, 2},
		impl.RmTies: {1, 0, 0, 1},
	}
	for _, f := range forms {
		for mode, l := range want {
			for i, n := range []int64{-3, -1, 1, 3} {
				w := l[i]
				if n < 0 {
					w |= f.sign
				}
				if x, flags, ok := impl.Rounded(f.fm, mode, impl.WideOf(n), f.unit-1); !ok || x != w || flags != impl.FlInexact|impl.FlUnderflow {
					t.Errorf("%d mode %d, %d halves: %x %d %v", f.fm, mode, n, x, flags, ok)
				}
			}
		}
	}
}

func TestRoundedNearTheGreatest(t *testing.T) {
	for _, f := range forms {
		e := f.greatestE - 2
		half := int64(4)<<f.precision - 2 // in quarters of a step; the greatest one is two less, and as far on is the power of 2
		const one, over = impl.FlInexact, impl.FlInexact | impl.FlOverflow
		for _, r := range []struct {
			n     int64
			inf   string // the modes that go to infinity, above 0
			flags [6]int64
		}{
			{half - 2, "", [6]int64{}},
			{half - 1, "2", [6]int64{one, one, over, one, one, one}},
			{half, "024", [6]int64{over, one, over, one, over, one}},
			{half + 1, "0245", [6]int64{over, one, over, one, over, over}},
			{half + 2, "0245", [6]int64{over, over, over, over, over, over}},
			{2*half + 4, "0245", [6]int64{over, over, over, over, over, over}},
		} {
			for _, mode := range modes {
				want := f.greatest
				for _, c := range r.inf {
					if int64(c-'0') == mode {
						want = f.inf
					}
				}
				if x, flags, ok := impl.Rounded(f.fm, mode, impl.WideOf(r.n), e); !ok || x != want || flags != r.flags[mode] {
					t.Errorf("%d mode %d, %d: %x %d %v", f.fm, mode, r.n, x, flags, ok)
				}
				// Below 0 up and down change places.
				turned := []int64{impl.RmEven, impl.RmZero, impl.RmDown, impl.RmUp, impl.RmAway, impl.RmTies}[mode]
				if x, flags, ok := impl.Rounded(f.fm, turned, impl.WideOf(-r.n), e); !ok || x != f.sign|want || flags != r.flags[mode] {
					t.Errorf("%d mode %d, -%d: %x %d %v", f.fm, turned, r.n, x, flags, ok)
				}
			}
		}
	}
}

func TestRoundedNearTheLeast(t *testing.T) {
	const under = impl.FlInexact | impl.FlUnderflow
	for _, f := range forms {
		for _, x := range []exact{
			exactOf(1, f.unit-2), exactOf(1, f.unit-1), exactOf(3, f.unit-2), exactOf(1, -10000), {power(6399), -10000}, {greatestWide(), -10000},
			{greatestWide(), f.unit - 6401}, {power(6399), f.unit - 6400}, {greatestWide(), f.unit - 6400},
		} {
			for _, mode := range modes {
				checkRounded(t, f, mode, x)
				checkRounded(t, f, mode, x.negated())
			}
		}
		up, flags, ok := impl.Rounded(f.fm, impl.RmUp, impl.WideOf(1), -10000)
		if !ok || up != 1 || flags != under {
			t.Errorf("%d: up from what is next to nothing: %x %d", f.fm, up, flags)
		}
		for _, mode := range []int64{impl.RmEven, impl.RmZero, impl.RmUp, impl.RmAway, impl.RmTies} {
			if x, flags, ok := impl.Rounded(f.fm, mode, impl.WideOf(-1), -10000); !ok || x != f.sign || flags != under {
				t.Errorf("%d mode %d: what is next to nothing below 0: %x %d", f.fm, mode, x, flags)
			}
		}
	}
}

// What comes to 2 to the P - 1 units from below was nearer to 0 than that, so it tells the underflow.
func TestRoundedUpToTheNormalOnes(t *testing.T) {
	for _, f := range forms {
		normal := uint64(1) << (f.precision - 1)
		below := int64(4*normal) - 1
		for _, r := range []struct {
			n     int64
			mode  int64
			want  uint64
			flags int64
		}{
			{below, impl.RmEven, normal, 3}, {below, impl.RmUp, normal, 3}, {below, impl.RmDown, normal - 1, 3},
			{below - 1, impl.RmEven, normal, 3}, {below - 1, impl.RmAway, normal, 3}, {below - 1, impl.RmTies, normal - 1, 3},
			{below + 1, impl.RmEven, normal, 0}, {below + 2, impl.RmEven, normal, 1}, {below + 2, impl.RmUp, normal + 1, 1},
		} {
			if x, flags, ok := impl.Rounded(f.fm, r.mode, impl.WideOf(r.n), f.unit-2); !ok || x != r.want || flags != r.flags {
				t.Errorf("%d %v: %x %d", f.fm, r, x, flags)
			}
		}
	}
}

func TestRoundedFarFromE(t *testing.T) {
	for _, f := range forms {
		for _, bits := range append(f.edges()[1:], f.greatest>>1) {
			for _, x := range []exact{f.exactOf(bits), f.exactOf(bits).negated()} {
				want := bits
				if x.n.Sign() < 0 {
					want |= f.sign
				}
				for _, finer := range []int64{0, 1, 31, 32, 33, 1000, 4000} {
					y := x.finer(finer)
					if !y.fits() {
						continue
					}
					for _, mode := range modes {
						if got, flags, ok := impl.Rounded(f.fm, mode, wideOfBig(y.n), y.e); !ok || got != want || flags != 0 {
							t.Errorf("%d mode %d: %x comes to %x %d", f.fm, mode, want, got, flags)
						}
					}
					if got, ok := impl.ExactFloat(f.fm, wideOfBig(y.n), y.e); !ok || got != want {
						t.Errorf("%d: %x is exactly %x %v", f.fm, want, got, ok)
					}
				}
			}
		}
	}
}

func TestRoundedOfZero(t *testing.T) {
	for _, f := range forms {
		for _, e := range []int64{0, 1, -1, 7, f.unit, f.greatestE, -10000, 10000} {
			for _, mode := range modes {
				if x, flags, ok := impl.Rounded(f.fm, mode, impl.Wide{}, e); !ok || x != 0 || flags != 0 {
					t.Errorf("%d mode %d e %d: %x %d %v", f.fm, mode, e, x, flags, ok)
				}
			}
			if x, ok := impl.ExactFloat(f.fm, impl.Wide{Limbs: []uint32{}}, e); !ok || x != 0 {
				t.Errorf("%d e %d: %x %v", f.fm, e, x, ok)
			}
		}
	}
}

func TestRoundedAtTheLimits(t *testing.T) {
	wides := []*big.Int{big.NewInt(1), big.NewInt(-1), power(6399), greatestWide(), new(big.Int).Neg(greatestWide()), new(big.Int).Neg(power(6399))}
	for _, f := range forms {
		for _, n := range wides {
			for _, e := range []int64{-10000, -9999, 9999, 10000, -6400, -6399, -6399 + f.greatestE, -6400 + f.greatestE + int64(f.precision)} {
				for _, mode := range modes {
					checkRounded(t, f, mode, exact{n, e})
				}
			}
			for _, e := range []int64{-10001, 10001, math.MinInt64, math.MaxInt64, 1 << 32, -1 << 32} {
				for _, mode := range modes {
					if x, flags, ok := impl.Rounded(f.fm, mode, wideOfBig(n), e); ok || x != 0 || flags != 0 {
						t.Errorf("%d mode %d e %d: %x %d %v", f.fm, mode, e, x, flags, ok)
					}
				}
				if x, ok := impl.ExactFloat(f.fm, wideOfBig(n), e); ok || x != 0 {
					t.Errorf("%d e %d: %x %v", f.fm, e, x, ok)
				}
			}
		}
		for _, e := range []int64{-10001, 10001} {
			if _, _, ok := impl.Rounded(f.fm, impl.RmEven, impl.Wide{}, e); ok {
				t.Error("0 with an e of", e)
			}
			if _, ok := impl.ExactFloat(f.fm, impl.Wide{}, e); ok {
				t.Error("0 with an e of", e)
			}
		}
	}
}

func checkNotRounded(t *testing.T, fm int64, mode int64, w impl.Wide, e int64) {
	t.Helper()
	if x, flags, ok := impl.Rounded(fm, mode, w, e); ok || x != 0 || flags != 0 {
		t.Errorf("%d mode %d %d limbs: %x %d %v", fm, mode, len(w.Limbs), x, flags, ok)
	}
}

func TestRoundedRefuses(t *testing.T) {
	for _, f := range forms {
		for _, w := range wrongWides() {
			for _, mode := range modes {
				checkNotRounded(t, f.fm, mode, w, 0)
			}
			if x, ok := impl.ExactFloat(f.fm, w, 0); ok || x != 0 {
				t.Errorf("%d %d limbs: %x", f.fm, len(w.Limbs), x)
			}
		}
		for _, mode := range noModes {
			checkNotRounded(t, f.fm, mode, impl.WideOf(1), 0)
			checkNotRounded(t, f.fm, mode, impl.Wide{}, 0)
			checkNotRounded(t, f.fm, mode, impl.WideOf(1), 200)
		}
	}
	for _, fm := range noFormats {
		for _, mode := range modes {
			checkNotRounded(t, fm, mode, impl.WideOf(3), 0)
			checkNotRounded(t, fm, mode, impl.Wide{}, 0)
		}
		if x, ok := impl.ExactFloat(fm, impl.WideOf(1), 0); ok || x != 0 {
			t.Error(fm, x)
		}
	}
}

func TestNumbersOfModesAndFlags(t *testing.T) {
	if got := [6]int64(modes); got != [6]int64{0, 1, 2, 3, 4, 5} {
		t.Error("modes", got)
	}
	if got := [4]int64{impl.FlInexact, impl.FlUnderflow, impl.FlOverflow, impl.FlInvalid}; got != [4]int64{1, 2, 4, 8} {
		t.Error("flags", got)
	}
}

func TestModeOk(t *testing.T) {
	for _, mode := range modes {
		if !impl.ModeOk(mode) {
			t.Error(mode)
		}
	}
	for _, mode := range noModes {
		if impl.ModeOk(mode) {
			t.Error(mode)
		}
	}
}

func TestExactFloat(t *testing.T) {
	for _, f := range forms {
		for _, x := range f.numbers() {
			want, flags := f.rounded(impl.RmEven, x)
			if flags != 0 {
				want = 0
			}
			if bits, ok := impl.ExactFloat(f.fm, wideOfBig(x.n), x.e); ok != (flags == 0) || bits != want {
				t.Errorf("%d %x times 2 to the %d: %x %v", f.fm, x.n, x.e, bits, ok)
			}
		}
	}
}

func TestRoundedLeavesTheWideAlone(t *testing.T) {
	for _, f := range forms {
		for _, w := range rightWides() {
			given := roomy(w)
			for _, mode := range modes {
				a, flags, _ := impl.Rounded(f.fm, mode, given, -700)
				b, others, _ := impl.Rounded(f.fm, mode, given, -700)
				if a != b || flags != others {
					t.Error("another answer the second time")
				}
			}
			impl.ExactFloat(f.fm, given, 5)
			if !untouched(given, w) {
				t.Error("written into", len(w.Limbs))
			}
		}
	}
}

func TestConvertedOfNumbers(t *testing.T) {
	for _, from := range forms {
		for _, to := range forms {
			for i, x := range from.floats() {
				if !from.isFinite(x) || from.isZero(x) {
					continue
				}
				mode := modes[i%6]
				bits, flags, ok := impl.Converted(from.fm, to.fm, mode, x)
				want, told := to.rounded(mode, from.exactOf(x))
				if !ok || bits != want || flags != told {
					t.Errorf("%x of %d to %d mode %d: %x %d, want %x %d", x, from.fm, to.fm, mode, bits, flags, want, told)
				}
				if from.fm <= to.fm && flags != 0 {
					t.Errorf("%x of %d has no place in %d", x, from.fm, to.fm)
				}
			}
		}
	}
}

func TestConvertedEdges(t *testing.T) {
	wide := forms[1]
	for _, f := range forms[0].edges() {
		// Floats of 64 bits at, halfway between and beside those of 32.
		for _, x := range forms[0].beside(f, 20) {
			bits, flags := wide.rounded(impl.RmEven, x)
			if flags != 0 {
				continue
			}
			for _, mode := range modes {
				want, told := forms[0].rounded(mode, wide.exactOf(bits))
				if wide.isZero(bits) {
					continue
				}
				if got, flags, ok := impl.Converted(64, 32, mode, bits); !ok || got != want || flags != told {
					t.Errorf("%x mode %d: %x %d, want %x %d", bits, mode, got, flags, want, told)
				}
			}
		}
	}
}

func TestConvertedOfOthers(t *testing.T) {
	for _, from := range forms {
		for _, to := range forms {
			for _, mode := range modes {
				for _, r := range []struct {
					x, want uint64
					flags   int64
				}{
					{0, 0, 0}, {from.sign, to.sign, 0}, {from.inf, to.inf, 0}, {from.sign | from.inf, to.sign | to.inf, 0},
					{from.nan, to.nan, 0}, {from.sign | from.nan, to.nan, 0}, {from.nan + 1, to.nan, 0}, {from.all, to.nan, 0},
					{from.inf + 1, to.nan, 8}, {from.nan - 1, to.nan, 8}, {from.sign | (from.inf + 1), to.nan, 8},
				} {
					if x, flags, ok := impl.Converted(from.fm, to.fm, mode, r.x); !ok || x != r.want || flags != r.flags {
						t.Errorf("%x of %d to %d mode %d: %x %d %v", r.x, from.fm, to.fm, mode, x, flags, ok)
					}
				}
			}
		}
	}
}

func TestConvertedRefuses(t *testing.T) {
	refused := func(from int64, to int64, mode int64, bits uint64) {
		t.Helper()
		if x, flags, ok := impl.Converted(from, to, mode, bits); ok || x != 0 || flags != 0 {
			t.Errorf("%x of %d to %d mode %d: %x %d %v", bits, from, to, mode, x, flags, ok)
		}
	}
	for _, f := range forms {
		for _, fm := range noFormats {
			for _, bits := range []uint64{0, 1, f.inf, f.nan, f.inf + 1, f.sign} {
				refused(f.fm, fm, impl.RmEven, bits)
				refused(fm, f.fm, impl.RmEven, bits)
				refused(fm, fm, impl.RmEven, bits)
			}
		}
		for _, mode := range noModes {
			for _, bits := range []uint64{0, 1, f.inf, f.nan, f.inf + 1} {
				refused(f.fm, f.fm, mode, bits)
				refused(f.fm, 96-f.fm, mode, bits)
			}
		}
		for _, bits := range f.notFloats() {
			refused(f.fm, 32, impl.RmEven, bits)
			refused(f.fm, 64, impl.RmEven, bits)
		}
	}
}

// bounds is what a float says of itself: its value, or that there is none beyond the greatest ones.
func (f form) bounds(bits uint64) (exact, bool) {
	if f.isFinite(bits) {
		return f.exactOf(bits), true
	}
	return exact{}, false
}

func TestPromise3UpAndDown(t *testing.T) {
	for _, f := range forms {
		for _, x := range f.numbers() {
			w := wideOfBig(x.n)
			down, flags, _ := impl.Rounded(f.fm, impl.RmDown, w, x.e)
			up, others, _ := impl.Rounded(f.fm, impl.RmUp, w, x.e)
			if v, ok := f.bounds(down); ok && v.cmp(x) > 0 || !ok && down != f.sign|f.inf {
				t.Errorf("%d: %x is above %x times 2 to the %d", f.fm, down, x.n, x.e)
			}
			if v, ok := f.bounds(up); ok && v.cmp(x) < 0 || !ok && up != f.inf {
				t.Errorf("%d: %x is below %x times 2 to the %d", f.fm, up, x.n, x.e)
			}
			if next := impl.NextUp(f.fm, down); up != down && impl.CompareFloats(f.fm, next, up) != 0 {
				t.Errorf("%d: %x and %x are not next to each other", f.fm, down, up)
			}
			if (flags == 0) != (up == down) || (others == 0) != (up == down) {
				t.Errorf("%d: %x and %x with flags %d and %d", f.fm, down, up, flags, others)
			}
		}
	}
}

// side is a float's value for a distance; infinity stands for the power of 2 behind the greatest one.
func (f form) side(bits uint64) exact {
	if f.isFinite(bits) {
		return f.exactOf(bits)
	}
	x := exactOf(1, f.greatestE+int64(f.precision))
	if bits&f.sign != 0 {
		return x.negated()
	}
	return x
}

func TestPromise3Nearest(t *testing.T) {
	for _, f := range forms {
		for _, x := range f.numbers() {
			if x.abs().cmp(f.side(f.inf)) > 0 {
				continue
			}
			w := wideOfBig(x.n)
			down, _, _ := impl.Rounded(f.fm, impl.RmDown, w, x.e)
			up, _, _ := impl.Rounded(f.fm, impl.RmUp, w, x.e)
			a, b := x.minus(f.side(down)).abs(), x.minus(f.side(up)).abs()
			for _, mode := range []int64{impl.RmEven, impl.RmAway, impl.RmTies} {
				got, _, _ := impl.Rounded(f.fm, mode, w, x.e)
				switch got {
				case down:
					if a.cmp(b) > 0 {
						t.Errorf("%d mode %d: %x, but %x is nearer", f.fm, mode, down, up)
					}
				case up:
					if b.cmp(a) > 0 {
						t.Errorf("%d mode %d: %x, but %x is nearer", f.fm, mode, up, down)
					}
				default:
					t.Errorf("%d mode %d: %x is neither %x nor %x", f.fm, mode, got, down, up)
				}
			}
		}
	}
}

func TestPromise3Order(t *testing.T) {
	for _, f := range forms {
		l := f.numbers()
		d := &dice{33}
		for range 20000 {
			i := d.below(len(l))
			j := max(0, min(len(l)-1, i+d.below(30)-15))
			x, y := l[i], l[j]
			if x.cmp(y) > 0 {
				x, y = y, x
			}
			mode := modes[d.below(6)]
			a, _, _ := impl.Rounded(f.fm, mode, wideOfBig(x.n), x.e)
			b, _, _ := impl.Rounded(f.fm, mode, wideOfBig(y.n), y.e)
			if impl.CompareFloats(f.fm, a, b) > 0 {
				t.Errorf("%d mode %d: %x for less and %x for more", f.fm, mode, a, b)
			}
		}
	}
}

func TestPromise3Flags(t *testing.T) {
	for _, f := range forms {
		for _, x := range f.numbers() {
			bits, is := impl.ExactFloat(f.fm, wideOfBig(x.n), x.e)
			if is && f.exactOf(bits).cmp(x) != 0 {
				t.Errorf("%d: %x is not %x times 2 to the %d", f.fm, bits, x.n, x.e)
			}
			for _, mode := range modes {
				got, flags, ok := impl.Rounded(f.fm, mode, wideOfBig(x.n), x.e)
				same := f.isFinite(got) && f.exactOf(got).cmp(x) == 0
				if !ok || (flags == 0) != is || same != is {
					t.Errorf("%d mode %d: %x %d for %x times 2 to the %d", f.fm, mode, got, flags, x.n, x.e)
				}
			}
		}
	}
}
