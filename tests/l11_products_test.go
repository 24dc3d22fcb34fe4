package tests

import (
	"math"
	"math/big"
	"slices"
	"testing"

	"loop.example/g00672/impl"
)

// split is a finite float that is not zero by Go's own halves: these are 1/2 or more and below 1.
func (f form) split(bits uint64) (uint64, int64) {
	half, e := math.Frexp(f.value(bits))
	return f.fromFloat(2 * half), int64(e) - 1
}

// wholeOf is M, with its sign, and E of a finite float.
func (f form) wholeOf(bits uint64) (int64, int64) {
	normal := uint64(1) << (f.precision - 1)
	e, m := bits&^f.sign/normal, bits%normal
	if e == 0 {
		e = 1
	} else {
		m += normal
	}
	if bits&f.sign != 0 {
		return -int64(m), f.unit + int64(e) - 1
	}
	return int64(m), f.unit + int64(e) - 1
}

func (f form) exactProd(xs []uint64) exact {
	p := exactOf(1, 0)
	for _, x := range xs {
		m, e := f.wholeOf(x)
		p.n.Mul(p.n, big.NewInt(m))
		p.e += e
	}
	return p
}

// prod is the chapter's product, step by step, by the arithmetic of these tests.
func (f form) prod(xs []uint64) impl.Prod {
	var sign uint64
	var zeros, infs, nans, signals int
	for _, x := range xs {
		sign ^= x & f.sign
		switch {
		case f.isZero(x):
			zeros++
		case f.isNaN(x):
			nans++
		case !f.isFinite(x):
			infs++
		}
		if f.isSignal(x) {
			signals++
		}
	}
	switch {
	case signals > 0 || zeros > 0 && infs > 0:
		return impl.Prod{Bits: f.nan, Flags: impl.FlInvalid}
	case nans > 0:
		return impl.Prod{Bits: f.nan}
	case infs > 0:
		return impl.Prod{Bits: sign | f.inf}
	case zeros > 0:
		return impl.Prod{Bits: sign}
	}
	p := impl.Prod{Bits: f.one()}
	for _, x := range xs {
		one, e := f.split(x)
		bits, flags := f.multiplied(impl.RmEven, p.Bits, one)
		p.Scale += e
		p.Flags |= flags
		if math.Abs(f.value(bits)) >= 2 {
			bits = f.fromFloat(f.value(bits) / 2)
			p.Scale++
		}
		p.Bits = bits
	}
	return p
}

func checkProd(t *testing.T, f form, xs []uint64) impl.Prod {
	t.Helper()
	got, want := impl.ScaledProd(f.fm, xs), f.prod(xs)
	if got != want {
		t.Errorf("%d: the product of %x is %x, want %x", f.fm, xs, got, want)
	}
	return got
}

func TestSplit(t *testing.T) {
	for _, f := range forms {
		for _, x := range f.floats() {
			one, e, ok := impl.Split(f.fm, x)
			if !f.isFinite(x) || f.isZero(x) {
				if ok || one != 0 || e != 0 {
					t.Errorf("%d: Split(%x) = %x, %d, %v", f.fm, x, one, e, ok)
				}
				continue
			}
			want, by := f.split(x)
			if !ok || one != want || e != by {
				t.Errorf("%d: Split(%x) = %x, %d, %v; want %x, %d", f.fm, x, one, e, ok, want, by)
			}
			if v := f.value(one &^ f.sign); v < 1 || v >= 2 || one&f.sign != x&f.sign {
				t.Errorf("%d: Split(%x) = %x", f.fm, x, one)
			}
			if v := math.Ldexp(f.value(one), int(e)); v != f.value(x) {
				t.Errorf("%d: Split(%x) is of %v", f.fm, x, v)
			}
		}
	}
}

func TestSplitByTable(t *testing.T) {
	for _, f := range forms {
		one, p := f.one(), int64(f.precision)
		normal := uint64(1) << (p - 1)
		top := f.greatestE + p - 1
		for _, r := range []struct {
			x, want uint64
			e       int64
		}{
			{one, one, 0}, {one - 1, one + normal - 1, -1}, {one + 1, one + 1, 0}, {one + normal - 1, one + normal - 1, 0}, {one + normal, one, 1},
			{1, one, f.unit}, {2, one, f.unit + 1}, {3, one + normal/2, f.unit + 1}, {5, one + normal/4, f.unit + 2},
			{normal - 1, one + normal - 2, f.unit + p - 2}, {normal / 2, one, f.unit + p - 2},
			{normal, one, f.unit + p - 1}, {normal + 1, one + 1, f.unit + p - 1}, {2*normal - 1, one + normal - 1, f.unit + p - 1}, {2 * normal, one, f.unit + p},
			{f.greatest, one + normal - 1, top}, {f.greatest - 1, one + normal - 2, top}, {f.greatest - normal + 1, one, top},
		} {
			for _, sign := range []uint64{0, f.sign} {
				got, e, ok := impl.Split(f.fm, sign|r.x)
				if !ok || got != sign|r.want || e != r.e {
					t.Errorf("%d: Split(%x) = %x, %d, %v; want %x, %d", f.fm, sign|r.x, got, e, ok, sign|r.want, r.e)
				}
			}
		}
	}
}

func TestSplitRefuses(t *testing.T) {
	refused := func(fm int64, x uint64) {
		t.Helper()
		if one, e, ok := impl.Split(fm, x); ok || one != 0 || e != 0 {
			t.Errorf("%d: Split(%x) = %x, %d, %v", fm, x, one, e, ok)
		}
	}
	for _, f := range forms {
		for _, x := range []uint64{0, f.inf, f.inf + 1, f.nan - 1, f.nan, f.nan + 1, f.sign - 1} {
			refused(f.fm, x)
			refused(f.fm, f.sign|x)
		}
		for _, x := range f.notFloats() {
			refused(f.fm, x)
		}
	}
	for _, fm := range noFormats {
		refused(fm, 0x3f800000)
		refused(fm, 0x3ff0000000000000)
	}
}

func TestProductsByTable(t *testing.T) {
	for _, f := range forms {
		one, minus, p := f.one(), f.sign, int64(f.precision)
		normal := uint64(1) << (p - 1)
		two, threeHalves := one+normal, one+normal/2
		top := f.greatestE + p - 1
		for _, r := range []struct {
			name string
			xs   []uint64
			want impl.Prod
		}{
			{"none", nil, impl.Prod{Bits: one}},
			{"one", []uint64{one}, impl.Prod{Bits: one}},
			{"the greatest", []uint64{f.greatest}, impl.Prod{Bits: two - 1, Scale: top}},
			{"the least below 0", []uint64{minus | 1}, impl.Prod{Bits: minus | one, Scale: f.unit}},
			{"halved", []uint64{threeHalves, threeHalves}, impl.Prod{Bits: one + normal/8, Scale: 1}},
			{"halved below 0", []uint64{threeHalves, minus | threeHalves}, impl.Prod{Bits: minus | one + normal/8, Scale: 1}},
			{"not halved", []uint64{one + normal/4, threeHalves}, impl.Prod{Bits: one + normal*7/8}},
			{"just below 2, rounded to it", []uint64{one + 1, two - 2}, impl.Prod{Bits: one, Scale: 1, Flags: 1}},
			{"just below 2, rounded to less", []uint64{one + 1, two - 3}, impl.Prod{Bits: two - 1, Flags: 1}},
			{"nearly 4", []uint64{two - 1, two - 1}, impl.Prod{Bits: two - 2, Scale: 1, Flags: 1}},
			{"nearly -4", []uint64{minus | (two - 1), two - 1}, impl.Prod{Bits: minus | (two - 2), Scale: 1, Flags: 1}},
			{"of two alike the even one above", []uint64{one + 1, threeHalves}, impl.Prod{Bits: threeHalves + 2, Flags: 1}},
			{"of two alike the even one below", []uint64{one + 3, threeHalves}, impl.Prod{Bits: threeHalves + 4, Flags: 1}},
			{"the scale alone", []uint64{f.scaled(1, 7), f.scaled(1, -20), f.scaled(1, 3)}, impl.Prod{Bits: one, Scale: -10}},
			{"MaxVector of the least", filled(impl.MaxVector, 1), impl.Prod{Bits: one, Scale: impl.MaxVector * f.unit}},
			{"MaxVector of -1", filled(impl.MaxVector, minus|one), impl.Prod{Bits: one}},
			{"one less", filled(impl.MaxVector-1, minus|one), impl.Prod{Bits: minus | one}},
			{"MaxVector of the greatest power of 2", filled(impl.MaxVector, f.scaled(1, top)), impl.Prod{Bits: one, Scale: impl.MaxVector * top}},
			{"far up and back", append(filled(150, f.scaled(1, top)), filled(150, f.scaled(1, -top))...), impl.Prod{Bits: one}},
		} {
			if got := impl.ScaledProd(f.fm, r.xs); got != r.want {
				t.Errorf("%d, %s: %x, want %x", f.fm, r.name, got, r.want)
			}
		}
	}
}

func TestOddProductsByTable(t *testing.T) {
	for _, f := range forms {
		one, minus, quiet, signal := f.one(), f.sign, f.nan+1, f.inf+1
		invalid, plain := impl.Prod{Bits: f.nan, Flags: impl.FlInvalid}, impl.Prod{Bits: f.nan}
		for _, r := range []struct {
			xs   []uint64
			want impl.Prod
		}{
			{[]uint64{0}, impl.Prod{}}, {[]uint64{minus}, impl.Prod{Bits: minus}},
			{[]uint64{minus, minus}, impl.Prod{}}, {[]uint64{0, minus}, impl.Prod{Bits: minus}},
			{[]uint64{0, minus | one}, impl.Prod{Bits: minus}}, {[]uint64{minus | one, 0, minus | f.greatest}, impl.Prod{}},
			{[]uint64{f.scaled(3, 0), f.scaled(5, 0), minus}, impl.Prod{Bits: minus}},
			{[]uint64{f.greatest, f.greatest, 0}, impl.Prod{}}, {[]uint64{f.fromFloat(0.1), f.fromFloat(0.1), 0}, impl.Prod{}},
			{[]uint64{f.inf}, impl.Prod{Bits: f.inf}}, {[]uint64{minus | f.inf}, impl.Prod{Bits: minus | f.inf}},
			{[]uint64{minus | f.inf, minus | f.inf}, impl.Prod{Bits: f.inf}}, {[]uint64{f.inf, minus | f.inf}, impl.Prod{Bits: minus | f.inf}},
			{[]uint64{f.inf, minus | 1}, impl.Prod{Bits: minus | f.inf}}, {[]uint64{f.scaled(3, 0), f.scaled(5, 0), f.inf}, impl.Prod{Bits: f.inf}},
			{[]uint64{minus | one, f.inf, minus | one, minus | one}, impl.Prod{Bits: minus | f.inf}},
			{[]uint64{0, f.inf}, invalid}, {[]uint64{f.inf, 0}, invalid}, {[]uint64{minus, f.inf}, invalid}, {[]uint64{minus | f.inf, minus}, invalid},
			{[]uint64{one, f.inf, one, one, 0}, invalid}, {[]uint64{0, one, minus | f.inf}, invalid},
			{[]uint64{quiet}, plain}, {[]uint64{minus | f.nan}, plain}, {[]uint64{minus | f.all}, plain}, {[]uint64{minus | one, quiet}, plain},
			{[]uint64{quiet, 0}, plain}, {[]uint64{0, quiet}, plain}, {[]uint64{quiet, f.inf}, plain}, {[]uint64{minus | f.inf, quiet}, plain}, {[]uint64{quiet, f.inf, f.inf}, plain}, {[]uint64{0, quiet, minus}, plain},
			{[]uint64{quiet, 0, f.inf}, invalid}, {[]uint64{f.inf, quiet, 0}, invalid}, {[]uint64{0, f.inf, quiet}, invalid},
			{[]uint64{signal}, invalid}, {[]uint64{minus | f.nan - 1}, invalid}, {[]uint64{one, signal}, invalid}, {[]uint64{quiet, signal}, invalid}, {[]uint64{signal, quiet}, invalid},
			{[]uint64{0, signal}, invalid}, {[]uint64{signal, minus | f.inf}, invalid}, {[]uint64{f.inf, 0, signal}, invalid},
			{append(filled(impl.MaxVector-1, f.fromFloat(0.1)), f.inf), impl.Prod{Bits: f.inf}},
			{append(filled(impl.MaxVector-1, f.fromFloat(-0.1)), minus), impl.Prod{}},
			{append(filled(impl.MaxVector-1, f.fromFloat(0.1)), signal), invalid},
		} {
			if got := impl.ScaledProd(f.fm, r.xs); got != r.want {
				t.Errorf("%d: the product of %x is %x, want %x", f.fm, r.xs, got, r.want)
			}
		}
	}
}

func TestProductsOfCorners(t *testing.T) {
	for _, f := range forms {
		l := f.corners()
		d := &dice{111}
		for _, a := range l {
			checkProd(t, f, []uint64{a})
			for _, b := range l {
				checkProd(t, f, []uint64{a, b})
				for _, c := range l {
					checkProd(t, f, []uint64{a, b, c})
				}
				checkProd(t, f, []uint64{l[d.below(len(l))], a, f.fromFloat(1.7), b, l[d.below(len(l))]})
			}
		}
	}
}

// nonZeros: n finite floats that are not zero, of all exponents.
func (f form) nonZeros(d *dice, n int) []uint64 {
	var l []uint64
	for len(l) < n {
		x := d.next() & f.all
		if d.below(4) == 0 {
			x = uint64(1+d.below(1000)) | d.next()&f.sign
		}
		if f.isFinite(x) && !f.isZero(x) {
			l = append(l, x)
		}
	}
	return l
}

func TestProductsOfAny(t *testing.T) {
	for _, f := range forms {
		d := &dice{112}
		corners := f.corners()
		for i := range 400 {
			n := d.below(20)
			if i%20 == 0 {
				n = impl.MaxVector
			}
			xs := f.nonZeros(d, n)
			checkProd(t, f, xs)
			for range 1 + d.below(3) {
				if n > 0 {
					xs[d.below(n)] = corners[d.below(len(corners))]
				}
			}
			checkProd(t, f, xs)
		}
	}
}

func TestScalesFarFrom0(t *testing.T) {
	for _, f := range forms {
		d := &dice{113}
		for _, near := range []uint64{1, 7, f.greatest - 3, f.greatest} {
			var xs []uint64
			for range impl.MaxVector {
				xs = append(xs, near&^3+uint64(1+d.below(3))|d.next()&f.sign)
			}
			p := checkProd(t, f, xs)
			if far := 290 * -f.unit; near < 10 && p.Scale > -far || near > 10 && p.Scale < 290*(f.greatestE+int64(f.precision)-1) {
				t.Errorf("%d: Scale %d of floats near %x", f.fm, p.Scale, near)
			}
		}
	}
}

// Each refusal, where all that come behind it would hold, too.
func TestFirstReasonOfNoProduct(t *testing.T) {
	const no = 1 << 32 // no float of format 32
	for _, r := range []struct {
		fm   int64
		xs   []uint64
		want int64
	}{
		{33, nil, impl.ReForm}, {0, filled(2, 0), impl.ReForm}, {33, filled(impl.MaxVector+1, no), impl.ReForm}, {33, []uint64{no}, impl.ReForm},
		{32, filled(impl.MaxVector+1, no), impl.ReMany}, {32, filled(impl.MaxVector+1, 0x3f800000), impl.ReMany}, {64, filled(impl.MaxVector+1, no), impl.ReMany}, {64, filled(100000, 0), impl.ReMany},
		{32, []uint64{no}, impl.ReFloat}, {32, []uint64{0, no}, impl.ReFloat}, {32, []uint64{0, 0x7f800000, no}, impl.ReFloat}, {32, []uint64{no, 0x7f800001}, impl.ReFloat},
		{32, []uint64{1<<32 | 0x3f800000}, impl.ReFloat}, {32, []uint64{1 << 63}, impl.ReFloat}, {32, append(filled(impl.MaxVector-1, 0x3f800000), no), impl.ReFloat},
	} {
		if got := impl.ScaledProd(r.fm, r.xs); got != (impl.Prod{Code: r.want}) {
			t.Errorf("%d of %d: %x, want %d", r.fm, len(r.xs), got, r.want)
		}
	}
	for _, fm := range noFormats {
		if got := impl.ScaledProd(fm, filled(2, 0x3f800000)); got != (impl.Prod{Code: impl.ReForm}) {
			t.Errorf("%d: %x", fm, got)
		}
	}
	for _, f := range forms {
		for _, no := range f.notFloats() {
			for i := range 5 {
				xs := filled(5, f.one())
				xs[i] = no
				if got := impl.ScaledProd(f.fm, xs); got != (impl.Prod{Code: impl.ReFloat}) {
					t.Errorf("%d of %x: %x", f.fm, xs, got)
				}
			}
		}
		if got := impl.ScaledProd(f.fm, filled(impl.MaxVector, f.one())); got != (impl.Prod{Bits: f.one()}) {
			t.Errorf("%d: %x of MaxVector", f.fm, got)
		}
	}
}

// scaledExact is what a product says, exactly.
func (f form) scaledExact(p impl.Prod) exact {
	m, e := f.wholeOf(p.Bits)
	return exact{big.NewInt(m), e + p.Scale}
}

// apart is both numbers in the smaller one of their scales.
func apart(a exact, b exact) (*big.Int, *big.Int) {
	e := min(a.e, b.e)
	return new(big.Int).Lsh(a.n, uint(a.e-e)), new(big.Int).Lsh(b.n, uint(b.e-e))
}

func TestPromise11From1To2(t *testing.T) {
	for _, f := range forms {
		d := &dice{114}
		for i := range 400 {
			xs := f.nonZeros(d, i%impl.MaxVector+1)
			p := impl.ScaledProd(f.fm, xs)
			if v := math.Abs(f.value(p.Bits)); p.Code != impl.ReOk || v < 1 || v >= 2 || p.Flags&^impl.FlInexact != 0 {
				t.Errorf("%d: %x of %d floats", f.fm, p, len(xs))
			}
			if neg := f.exactProd(xs).n.Sign() < 0; neg != (p.Bits&f.sign != 0) {
				t.Errorf("%d: the sign of %x", f.fm, p)
			}
		}
	}
}

func TestPromise11WrongByNoMore(t *testing.T) {
	for _, f := range forms {
		d := &dice{115}
		wrong := 0
		for i := range 3000 {
			n := 1 + i%12
			xs := f.nonZeros(d, n)
			if i%3 == 0 {
				// So small that each step loses the most, next to what is left.
				for j := range xs {
					xs[j] = f.one() + uint64(d.below(1<<12))
				}
			}
			got, want := apart(f.scaledExact(impl.ScaledProd(f.fm, xs)), f.exactProd(xs))
			lack := got.Sub(got, want)
			if lack.Sign() != 0 {
				wrong++
			}
			lack.Abs(lack).Lsh(lack, f.precision-1)
			if lack.Cmp(want.Abs(want).Mul(want, big.NewInt(int64(n)))) > 0 {
				t.Errorf("%d: the product of %x is too wrong", f.fm, xs)
			}
		}
		if wrong < 1000 {
			t.Errorf("%d: only %d products are wrong", f.fm, wrong)
		}
	}
}

// A product without a flag is the exact one; of two floats it has one just where it is not.
func TestFlagsOfProducts(t *testing.T) {
	for _, f := range forms {
		d := &dice{116}
		seen := map[int64]int{}
		for i := range 2000 {
			xs := f.nonZeros(d, 2)
			if i%2 == 0 {
				xs = nil
				for range 2 + d.below(3) {
					xs = append(xs, f.scaled(1+int64(d.below(1<<(f.precision/3))), int64(d.below(60)-30)))
				}
			}
			p := impl.ScaledProd(f.fm, xs)
			got, want := apart(f.scaledExact(p), f.exactProd(xs))
			same := got.Cmp(want) == 0
			if p.Flags == 0 && !same || len(xs) == 2 && p.Flags != 0 && same || p.Flags&^impl.FlInexact != 0 {
				t.Errorf("%d: flags %d of the product of %x", f.fm, p.Flags, xs)
			}
			seen[p.Flags]++
		}
		if seen[0] < 200 || seen[impl.FlInexact] < 200 {
			t.Errorf("%d: the products are too much alike: %v", f.fm, seen)
		}
	}
}

func checkExactProd(t *testing.T, f form, xs []uint64) {
	t.Helper()
	w, e, ok := impl.ProdExact(f.fm, xs)
	want := f.exactProd(xs)
	checkWide(t, "ProdExact", w, ok, want.n)
	if ok && e != want.e || !ok && e != 0 {
		t.Errorf("%d: ProdExact of %d floats has the scale %d, want %d", f.fm, len(xs), e, want.e)
	}
}

func TestProdExact(t *testing.T) {
	for _, f := range forms {
		d := &dice{117}
		for _, x := range f.floats() {
			if f.isFinite(x) {
				checkExactProd(t, f, []uint64{x})
			}
		}
		for n := range impl.MaxVector + 1 {
			checkExactProd(t, f, f.nonZeros(d, n))
			checkExactProd(t, f, f.finites(d, n))
			checkExactProd(t, f, filled(n, f.sign|f.greatest))
			checkExactProd(t, f, filled(n, f.one()))
			checkExactProd(t, f, filled(n, f.sign|1))
		}
	}
}

func TestProdExactByTable(t *testing.T) {
	for _, f := range forms {
		one, p := f.one(), int64(f.precision)
		for _, r := range []struct {
			name string
			xs   []uint64
			n    *big.Int
			e    int64
		}{
			{"none", nil, big.NewInt(1), 0},
			{"one", []uint64{one}, power(uint(p - 1)), 1 - p},
			{"the least", []uint64{1}, big.NewInt(1), f.unit},
			{"the least ones, below 0", filled(3, f.sign|1), big.NewInt(-1), 3 * f.unit},
			{"MaxVector of the least", filled(impl.MaxVector, f.sign|1), big.NewInt(1), impl.MaxVector * f.unit},
			{"subnormals", []uint64{6, f.sign | 7}, big.NewInt(-42), 2 * f.unit},
			{"the greatest", []uint64{f.greatest}, plus(power(uint(p)), -1), f.greatestE},
			{"a zero", []uint64{0}, new(big.Int), f.unit},
			{"a zero below 0", []uint64{f.sign}, new(big.Int), f.unit},
			{"zeros below 0", []uint64{one, f.sign, f.sign, f.sign}, new(big.Int), 1 - p + 3*f.unit},
			{"a zero first", []uint64{0, f.sign | one}, new(big.Int), f.unit + 1 - p},
		} {
			w, e, ok := impl.ProdExact(f.fm, r.xs)
			checkWide(t, r.name, w, ok, r.n)
			if e != r.e {
				t.Errorf("%d, %s: scale %d, want %d", f.fm, r.name, e, r.e)
			}
		}
	}
}

// justFit: floats whose product has the greatest number of bits that fit, and the last of which is a subnormal one.
func (f form) justFit() []uint64 {
	each := 32*impl.MaxLimbs - 1
	n := each / int(f.precision-1)
	return append(filled(n, f.one()), 1<<(each-n*int(f.precision-1)))
}

func TestProdExactThatJustFits(t *testing.T) {
	for _, f := range forms {
		d := &dice{118}
		fit := f.justFit()
		last := len(fit) - 1
		low, high := fit[last], fit[last]<<1-1
		if high >= 1<<(f.precision-1) {
			t.Fatalf("%d: %x is no subnormal float", f.fm, high)
		}
		for _, r := range []struct {
			last uint64
			fits bool
		}{{low, true}, {high, true}, {high | f.sign, true}, {high + 1, false}, {(high + 1) | f.sign, false}, {f.one(), false}} {
			for _, turned := range []bool{false, true} {
				xs := slices.Clone(fit)
				xs[last] = r.last
				if turned {
					xs = shuffledBy(d, xs)
				}
				if _, _, ok := impl.ProdExact(f.fm, xs); ok != r.fits {
					t.Errorf("%d: with %x it fits: %v", f.fm, r.last, ok)
				}
				checkExactProd(t, f, xs)
				checkExactProd(t, f, append(xs, 1))
				checkExactProd(t, f, append(xs, f.sign|1))
				checkExactProd(t, f, append(xs, 2))
			}
		}
	}
}

// What would not fit on its way fits, where a zero makes it 0, whichever comes first.
func TestProdExactOfZeros(t *testing.T) {
	for _, f := range forms {
		for _, n := range []int{1, 2, 121, 200, 290, impl.MaxVector} {
			for _, zero := range []uint64{0, f.sign} {
				for _, place := range []int{0, n / 2, n - 1} {
					xs := filled(n, f.sign|f.greatest)
					xs[place] = zero
					if _, _, ok := impl.ProdExact(f.fm, xs); !ok {
						t.Errorf("%d: 0 fits, with a zero at place %d of %d", f.fm, place, n)
					}
					checkExactProd(t, f, xs)
					xs[n-1-place] = f.sign
					checkExactProd(t, f, xs)
				}
			}
		}
	}
}

func TestProdExactRefuses(t *testing.T) {
	refused := func(what string, fm int64, xs []uint64) {
		t.Helper()
		if w, e, ok := impl.ProdExact(fm, xs); ok || e != 0 || !wideIs(w, impl.Wide{}) {
			t.Errorf("%s: ProdExact(%d, %d floats) = %v, %d, %v", what, fm, len(xs), w, e, ok)
		}
	}
	for _, f := range forms {
		for _, x := range append(f.notFloats(), f.inf, f.inf+1, f.nan-1, f.nan, f.nan+1, f.sign|f.inf, f.sign|f.nan, f.sign|(f.inf+1), f.all) {
			refused("alone", f.fm, []uint64{x})
			refused("behind a zero", f.fm, []uint64{0, x})
			refused("ahead of a zero", f.fm, []uint64{x, f.sign})
			refused("the last one", f.fm, append(filled(impl.MaxVector-1, 1), x))
			refused("behind what does not fit", f.fm, append(filled(impl.MaxVector-1, f.greatest), x))
		}
		refused("too many", f.fm, filled(impl.MaxVector+1, 1))
		refused("too many zeros", f.fm, filled(impl.MaxVector+1, 0))
		refused("too long", f.fm, filled(impl.MaxVector, f.greatest))
		refused("too long below 0", f.fm, append(filled(impl.MaxVector-1, f.greatest), f.sign|f.greatest))
	}
	for _, fm := range noFormats {
		refused("no format", fm, nil)
		refused("no format", fm, []uint64{0})
		refused("no format", fm, []uint64{0x3f800000})
	}
}

func TestProductsLeaveAllAsItWas(t *testing.T) {
	for _, f := range forms {
		d := &dice{119}
		for _, n := range []int{0, 1, 2, 12, 100, impl.MaxVector, impl.MaxVector + 1} {
			for _, odd := range []uint64{f.one(), 0, f.inf, f.nan} {
				room := append(f.nonZeros(d, n), filled(50, spareMark)...)
				if n > 0 {
					room[n/2] = odd
				}
				was := slices.Clone(room)
				xs := room[:n]
				if impl.ScaledProd(f.fm, xs) != impl.ScaledProd(f.fm, xs) {
					t.Error("ScaledProd is another one the second time")
				}
				a, e, ok := impl.ProdExact(f.fm, xs)
				b, g, is := impl.ProdExact(f.fm, xs)
				if e != g || ok != is || !wideIs(a, b) {
					t.Error("ProdExact is another one the second time")
				}
				kept := impl.Wide{Neg: b.Neg, Limbs: slices.Clone(b.Limbs)}
				scribble(a)
				if !wideIs(b, kept) {
					t.Error("two answers of ProdExact share memory")
				}
				if !slices.Equal(room, was) {
					t.Errorf("%d: something was written into a vector of %d", f.fm, n)
				}
			}
		}
	}
}
