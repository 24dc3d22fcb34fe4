package tests

import (
	"math"
	"math/big"
	"testing"

	"loop.example/g00672/impl"
)

type augment func(fm int64, a uint64, b uint64) (impl.Pair, int64, bool)

// pair is what must be answered where the head of x is that one: x is asked for only where it is finite.
func (f form) pair(head uint64, flags int64, x func() exact) (impl.Pair, int64) {
	if !f.isFinite(head) {
		return impl.Pair{Head: head, Tail: head}, flags
	}
	rest := x().minus(f.exactOf(head))
	if rest.n.Sign() == 0 {
		return impl.Pair{Head: head, Tail: head & f.sign}, 0
	}
	tail, told := f.rounded(impl.RmTies, rest)
	return impl.Pair{Head: head, Tail: tail}, told
}

func (f form) sum(a uint64, b uint64) exact {
	return exact{new(big.Int).Add(f.units(a), f.units(b)), f.unit}
}

func (f form) product(a uint64, b uint64) exact {
	return exact{new(big.Int).Mul(f.units(a), f.units(b)), 2 * f.unit}
}

func (f form) augAdded(a uint64, b uint64) (impl.Pair, int64) {
	head, flags := f.added(impl.RmTies, a, b)
	return f.pair(head, flags, func() exact { return f.sum(a, b) })
}

func (f form) augMultiplied(a uint64, b uint64) (impl.Pair, int64) {
	head, flags := f.multiplied(impl.RmTies, a, b)
	return f.pair(head, flags, func() exact { return f.product(a, b) })
}

func checkPair(t *testing.T, what string, by augment, f form, a uint64, b uint64, want impl.Pair, told int64) {
	t.Helper()
	if p, flags, ok := by(f.fm, a, b); !ok || p != want || flags != told {
		t.Errorf("%s %d of %x and %x: %x %d %v, want %x %d", what, f.fm, a, b, p, flags, ok, want, told)
	}
}

// checkSums holds a sum and the two differences that are the same against what it must be.
func checkSums(t *testing.T, f form, a uint64, b uint64, want impl.Pair, told int64) {
	t.Helper()
	checkPair(t, "AugAdd", impl.AugAdd, f, a, b, want, told)
	checkPair(t, "AugAdd turned", impl.AugAdd, f, b, a, want, told)
	checkPair(t, "AugSub", impl.AugSub, f, a, b^f.sign, want, told)
	checkPair(t, "AugSub turned", impl.AugSub, f, b, a^f.sign, want, told)
}

func checkProducts(t *testing.T, f form, a uint64, b uint64, want impl.Pair, told int64) {
	t.Helper()
	checkPair(t, "AugMul", impl.AugMul, f, a, b, want, told)
	checkPair(t, "AugMul turned", impl.AugMul, f, b, a, want, told)
	checkPair(t, "AugMul of both negated", impl.AugMul, f, a^f.sign, b^f.sign, want, told)
}

func checkAugmented(t *testing.T, f form, a uint64, b uint64) {
	t.Helper()
	want, told := f.augAdded(a, b)
	checkSums(t, f, a, b, want, told)
	want, told = f.augMultiplied(a, b)
	checkProducts(t, f, a, b, want, told)
}

func TestAugmentedOfCorners(t *testing.T) {
	for _, f := range forms {
		l := f.corners()
		for _, a := range l {
			for _, b := range l {
				checkAugmented(t, f, a, b)
			}
		}
	}
}

func TestAugmentedOfAny(t *testing.T) {
	for _, f := range forms {
		l := f.floats()
		d := &dice{61}
		for i := range 8000 {
			a, b := l[d.below(len(l))], l[d.below(len(l))]
			if i%2 > 0 && f.isFinite(a) {
				b = f.near(d, a)
			}
			checkAugmented(t, f, a, b)
		}
	}
}

// scaled is the float that is n times 2 to the e.
func (f form) scaled(n int64, e int64) uint64 {
	return f.fromFloat(math.Ldexp(float64(n), int(e)))
}

func TestAugmentedSumsByTable(t *testing.T) {
	for _, f := range forms {
		one, p := f.one(), int64(f.precision)
		half := f.scaled(1, -p) // of the step behind 1
		ulp := f.greatestE
		for _, r := range []struct {
			a, b, head, tail uint64
			flags            int64
		}{
			// Nothing is left over.
			{one, one, f.scaled(2, 0), 0, 0},
			{one, f.scaled(-3, 0), f.scaled(-2, 0), f.sign, 0},
			{one, 0, one, 0, 0},
			{f.sign | one, 0, f.sign | one, f.sign, 0},
			{1, 1, 2, 0, 0},
			{f.sign | 1, f.sign | 1, f.sign | 2, f.sign, 0},
			// Halfway: to the one nearer to 0, be its M even or odd.
			{one, half, one, half, 0},
			{one + 1, half, one + 1, half, 0},
			{one + 2, half, one + 2, half, 0},
			{f.sign | (one + 1), f.sign | half, f.sign | (one + 1), f.sign | half, 0},
			{one + 1, f.sign | half, one, half, 0},
			{one + 2, f.sign | half, one + 1, half, 0},
			// A tail of the other sign.
			{one, f.scaled(3, -p-1), one + 1, f.sign | f.scaled(1, -p-1), 0},
			{f.sign | one, f.scaled(-3, -p-1), f.sign | (one + 1), f.scaled(1, -p-1), 0},
			{one, f.sign | 1, one, f.sign | 1, 0},
			{f.sign | one, 1, f.sign | one, 1, 0},
			{f.greatest, f.sign | 1, f.greatest, f.sign | 1, 0},
			// Zeros.
			{0, 0, 0, 0, 0},
			{f.sign, f.sign, f.sign, f.sign, 0},
			{0, f.sign, 0, 0, 0},
			{one, f.sign | one, 0, 0, 0},
			{1, f.sign | 1, 0, 0, 0},
			{f.greatest, f.sign | f.greatest, 0, 0, 0},
			// Beyond the greatest one, and just not beyond it: what is halfway stays.
			{f.greatest, f.greatest, f.inf, f.inf, 5},
			{f.sign | f.greatest, f.sign | f.greatest, f.sign | f.inf, f.sign | f.inf, 5},
			{f.greatest, f.scaled(1, ulp), f.inf, f.inf, 5},
			{f.greatest, f.scaled(1, ulp-1), f.greatest, f.scaled(1, ulp-1), 0},
			{f.greatest, f.scaled(1, ulp-1) + 1, f.inf, f.inf, 5},
			{f.sign | f.greatest, f.scaled(-1, ulp-1), f.sign | f.greatest, f.scaled(-1, ulp-1), 0},
			{f.sign | f.greatest, f.sign | (f.scaled(1, ulp-1) + 1), f.sign | f.inf, f.sign | f.inf, 5},
			{f.greatest, 1, f.greatest, 1, 0},
			// Infinities.
			{f.inf, one, f.inf, f.inf, 0},
			{f.sign | f.inf, f.greatest, f.sign | f.inf, f.sign | f.inf, 0},
			{f.inf, f.inf, f.inf, f.inf, 0},
			{f.inf, f.sign | f.inf, f.nan, f.nan, 8},
		} {
			checkSums(t, f, r.a, r.b, impl.Pair{Head: r.head, Tail: r.tail}, r.flags)
		}
	}
}

func TestAugmentedProductsByTable(t *testing.T) {
	for _, f := range forms {
		one, p := f.one(), int64(f.precision)
		normal := uint64(1) << (f.precision - 1)
		ulp := f.greatestE
		for _, r := range []struct {
			a, b, head, tail uint64
			flags            int64
		}{
			// Nothing is left over.
			{f.scaled(3, 0), f.scaled(5, 0), f.scaled(15, 0), 0, 0},
			{f.scaled(-3, 0), f.scaled(5, 0), f.scaled(-15, 0), f.sign, 0},
			{1, one, 1, 0, 0},
			{f.sign | 1, one, f.sign | 1, f.sign, 0},
			{normal, f.scaled(1, -1), normal / 2, 0, 0},
			// A tail of the same sign, and of the other.
			{one + 1, one + 1, one + 2, f.scaled(1, 2-2*p), 0},
			{f.sign | (one + 1), one + 1, f.sign | (one + 2), f.scaled(-1, 2-2*p), 0},
			{one + 1, one - 1, one, f.scaled(1<<(p-1)-1, 1-2*p), 0},
			{one + 1, f.scaled(7, -2), f.scaled(7, -2) + 2, f.scaled(-1, -1-p), 0},
			{f.sign | (one + 1), f.scaled(7, -2), f.sign | (f.scaled(7, -2) + 2), f.scaled(1, -1-p), 0},
			// Halfway: to the one nearer to 0, where M is odd, too.
			{one + 1, f.scaled(3, -1), f.scaled(3, -1) + 1, f.scaled(1, -p), 0},
			{f.sign | (one + 1), f.scaled(3, -1), f.sign | (f.scaled(3, -1) + 1), f.scaled(-1, -p), 0},
			// Zeros.
			{0, one, 0, 0, 0}, {f.sign, one, f.sign, f.sign, 0}, {f.sign, f.sign, 0, 0, 0}, {f.sign, f.greatest, f.sign, f.sign, 0},
			// Beyond the greatest one.
			{f.greatest, f.scaled(2, 0), f.inf, f.inf, 5},
			{f.greatest, f.greatest, f.inf, f.inf, 5},
			{f.sign | f.greatest, f.greatest, f.sign | f.inf, f.sign | f.inf, 5},
			{f.greatest, one + 1, f.inf, f.inf, 5},
			{f.scaled(1, ulp), f.scaled(1, p), f.inf, f.inf, 5},
			// The tail is nearer to 0 than the least one.
			{one + 1, normal + 1, normal + 2, 0, 3},
			{f.sign | (one + 1), normal + 1, f.sign | (normal + 2), f.sign, 3},
			{1, f.scaled(5, -2), 1, 0, 3},
			{f.sign | 1, f.scaled(5, -2), f.sign | 1, f.sign, 3},
			{1, f.scaled(7, -2), 2, f.sign, 3},
			{f.sign | 1, f.scaled(7, -2), f.sign | 2, 0, 3},
			{3, f.scaled(1, -1), 1, 0, 3},
			// The head is, too.
			{1, 1, 0, 0, 3},
			{f.sign | 1, 1, f.sign, f.sign, 3},
			{normal, normal, 0, 0, 3},
			{1, f.scaled(1, -1), 0, 0, 3},
			{f.sign | 1, f.scaled(1, -1), f.sign, f.sign, 3},
			{1, f.scaled(3, -2), 1, f.sign, 3},
			{f.sign | 1, f.scaled(3, -2), f.sign | 1, 0, 3},
			// Infinities.
			{f.inf, one, f.inf, f.inf, 0},
			{f.sign | f.inf, 1, f.sign | f.inf, f.sign | f.inf, 0},
			{f.inf, f.sign | f.inf, f.sign | f.inf, f.sign | f.inf, 0},
			{f.inf, 0, f.nan, f.nan, 8}, {f.inf, f.sign, f.nan, f.nan, 8}, {f.sign | f.inf, 0, f.nan, f.nan, 8},
		} {
			checkProducts(t, f, r.a, r.b, impl.Pair{Head: r.head, Tail: r.tail}, r.flags)
		}
	}
}

// least is a float whose product with a is so near to 0 that its head, or its tail, may be nearer than the least one.
func (f form) least(d *dice, a uint64) uint64 {
	normal := uint64(1) << (f.precision - 1)
	p := int(f.precision)
	e := int64(f.one()/normal) - int64(a&^f.sign/normal) + int64(d.below(4*p)-p-5)
	e = max(0, min(e, int64(f.greatest/normal)))
	return uint64(e)*normal | d.next()&(normal-1) | d.next()&f.sign
}

func TestAugmentedProductsNearTheLeast(t *testing.T) {
	for _, f := range forms {
		l := append(f.floats(), f.edges()...)
		d := &dice{62}
		seen := map[int64]int{}
		lost := 0
		for range 12000 {
			a := l[d.below(len(l))]
			if !f.isFinite(a) {
				continue
			}
			b := f.least(d, a)
			want, told := f.augMultiplied(a, b)
			checkProducts(t, f, a, b, want, told)
			seen[told]++
			if told == 3 && !f.isZero(want.Tail) {
				lost++
			}
		}
		if seen[0] < 500 || seen[3] < 500 || lost < 100 {
			t.Errorf("%d: the flags are too much alike: %v, %d tails that lost a part", f.fm, seen, lost)
		}
	}
}

func TestAugmentedNaNs(t *testing.T) {
	for _, f := range forms {
		nan := impl.Pair{Head: f.nan, Tail: f.nan}
		for _, r := range []struct {
			bits  uint64
			flags int64
		}{{f.nan, 0}, {f.nan + 1, 0}, {f.sign | f.nan, 0}, {f.all, 0}, {f.sign - 1, 0}, {f.inf + 1, 8}, {f.nan - 1, 8}, {f.sign | (f.inf + 1), 8}, {f.sign | (f.nan - 1), 8}} {
			for _, other := range []uint64{0, f.sign, 1, f.one(), f.sign | f.one(), f.greatest, f.inf, f.sign | f.inf, f.nan, f.sign | f.nan, f.nan + 1} {
				checkSums(t, f, r.bits, other, nan, r.flags)
				checkProducts(t, f, r.bits, other, nan, r.flags)
			}
			for _, signal := range []uint64{f.inf + 1, f.sign | (f.nan - 1)} {
				checkSums(t, f, r.bits, signal, nan, 8)
				checkProducts(t, f, r.bits, signal, nan, 8)
			}
		}
	}
}

func TestAugmentedRefuses(t *testing.T) {
	some := []uint64{0, 1, 0x3f800000, 0x7f800000, 0x7fc00000, 0x7f800001, 0x80000000}
	refused := func(fm int64, a uint64, b uint64) {
		t.Helper()
		for i, by := range []augment{impl.AugAdd, impl.AugSub, impl.AugMul} {
			if p, flags, ok := by(fm, a, b); ok || flags != 0 || p != (impl.Pair{}) {
				t.Errorf("%d %d of %x and %x: %x %d %v", i, fm, a, b, p, flags, ok)
			}
		}
	}
	for _, f := range forms {
		for _, no := range f.notFloats() {
			for _, a := range append(some, no) {
				refused(f.fm, a, no)
				refused(f.fm, no, a)
			}
		}
	}
	for _, fm := range noFormats {
		for _, a := range some {
			for _, b := range some {
				refused(fm, a, b)
			}
		}
	}
}

// unitsOf is head and tail together, in units.
func unitsOf(t *testing.T, f form, p impl.Pair) impl.Wide {
	t.Helper()
	u, ok := impl.UnitsOf(f.fm, p.Head)
	v, is := impl.UnitsOf(f.fm, p.Tail)
	w, fits := impl.WideAdd(u, v)
	if !ok || !is || !fits {
		t.Errorf("%d: %x is not finite", f.fm, p)
	}
	return w
}

func checkPromise6(t *testing.T, f form, a uint64, b uint64) (sums int, products int) {
	t.Helper()
	u, _ := impl.UnitsOf(f.fm, a)
	v, _ := impl.UnitsOf(f.fm, b)
	for _, by := range []augment{impl.AugAdd, impl.AugSub} {
		p, flags, ok := by(f.fm, a, b)
		if w, _ := impl.WideAdd(u, v); ok && flags == 0 {
			if !wideIs(unitsOf(t, f, p), w) {
				t.Errorf("%d: head and tail %x are not %x and %x", f.fm, p, a, b)
			}
			sums++
		} else if !ok || flags != impl.FlInexact|impl.FlOverflow || f.isFinite(p.Head) {
			t.Errorf("%d: the sum of %x and %x tells %d %v", f.fm, a, b, flags, ok)
		}
		v = impl.WideNegated(v)
	}
	p, flags, ok := impl.AugMul(f.fm, a, b)
	if !ok {
		t.Errorf("%d: no product of %x and %x", f.fm, a, b)
	}
	if flags == 0 {
		w, _ := impl.WideMul(u, v)
		got, _ := impl.WideShifted(unitsOf(t, f, p), -f.unit)
		if !wideIs(got, w) {
			t.Errorf("%d: head and tail %x are not %x times %x", f.fm, p, a, b)
		}
		products++
	}
	return sums, products
}

func TestPromise6(t *testing.T) {
	for _, f := range forms {
		l := append(f.floats(), f.edges()...)
		d := &dice{63}
		sums, products := 0, 0
		for i := range 15000 {
			a, b := l[d.below(len(l))], l[d.below(len(l))]
			if !f.isFinite(a) || !f.isFinite(b) {
				continue
			}
			switch i % 4 {
			case 1:
				b = f.near(d, a)
			case 2:
				b = f.near(d, f.one())
			case 3:
				b = f.least(d, a)
			}
			s, p := checkPromise6(t, f, a, b)
			sums += s
			products += p
		}
		if sums < 10000 || products < 3000 {
			t.Errorf("%d: only %d sums and %d products", f.fm, sums, products)
		}
	}
}
