package tests

import (
	"math"
	"math/big"
	"slices"
	"testing"

	"loop.example/g00672/impl"
)

// term is a float, or the product of two.
type term struct {
	x     uint64
	y     uint64
	twice bool
}

func one(x uint64) term { return term{x: x} }

func two(x uint64, y uint64) term { return term{x, y, true} }

func ones(xs ...uint64) []term {
	var l []term
	for _, x := range xs {
		l = append(l, one(x))
	}
	return l
}

// outcome is what a term is, in 2 to the 2 Q where it is finite.
type outcome struct {
	nan bool
	bad bool
	inf bool
	neg bool
	n   *big.Int
}

// outcome is worked out apart from the program: a float by Go's own reading of it, a product in whole numbers.
func (f form) outcome(t term) outcome {
	if !t.twice {
		t.y = f.one()
	}
	o := outcome{neg: (t.x^t.y)&f.sign != 0, n: new(big.Int)}
	is, flags := f.nanOf(t.x, t.y)
	x, y := f.value(t.x), f.value(t.y)
	switch {
	case is:
		o.nan, o.bad = true, flags != 0
	case !math.IsInf(x, 0) && !math.IsInf(y, 0):
		o.n.Mul(f.units(t.x), f.units(t.y))
	case x == 0 || y == 0:
		o.nan, o.bad = true, true
	default:
		o.inf = true
	}
	return o
}

// accOf is the accumulator of the terms, by the chapter's words.
func (f form) accOf(terms []term) impl.Acc {
	a := impl.Acc{Fm: f.fm, Terms: int64(len(terms))}
	sum := new(big.Int)
	zeros := 0
	for _, t := range terms {
		o := f.outcome(t)
		a.Nan = a.Nan || o.nan
		a.Bad = a.Bad || o.bad
		a.Plus = a.Plus || o.inf && !o.neg
		a.Minus = a.Minus || o.inf && o.neg
		if !o.nan && !o.inf && o.neg && o.n.Sign() == 0 {
			zeros++
		}
		sum.Add(sum, o.n)
	}
	a.Sum = wideOfBig(sum)
	a.AllMinus = zeros > 0 && zeros == len(terms)
	return a
}

// accRounded is what AccRound must answer of a right accumulator.
func (f form) accRounded(mode int64, a impl.Acc) (uint64, int64) {
	both := a.Plus && a.Minus
	switch {
	case a.Bad || both:
		return f.nan, impl.FlInvalid
	case a.Nan:
		return f.nan, 0
	case a.Plus:
		return f.inf, 0
	case a.Minus:
		return f.sign | f.inf, 0
	}
	n := bigOf(a.Sum)
	if n.Sign() == 0 && (a.AllMinus || a.Terms > 0 && mode == impl.RmDown) {
		return f.sign, 0
	}
	return f.rounded(mode, exact{n, 2 * f.unit})
}

func accIs(a impl.Acc, b impl.Acc) bool {
	return a.Fm == b.Fm && wideIs(a.Sum, b.Sum) && a.Terms == b.Terms && flagsOf(a) == flagsOf(b)
}

func flagsOf(a impl.Acc) [5]bool { return [5]bool{a.Nan, a.Bad, a.Plus, a.Minus, a.AllMinus} }

func withFlags(a impl.Acc, flags [5]bool) impl.Acc {
	a.Nan, a.Bad, a.Plus, a.Minus, a.AllMinus = flags[0], flags[1], flags[2], flags[3], flags[4]
	return a
}

// allFlags: each way in which the five can stand.
func allFlags() [][5]bool {
	var l [][5]bool
	for i := range 32 {
		var flags [5]bool
		for j := range flags {
			flags[j] = i>>j&1 == 1
		}
		l = append(l, flags)
	}
	return l
}

func checkAcc(t *testing.T, what string, a impl.Acc, code int64, want impl.Acc) {
	t.Helper()
	if code != impl.AcOk || !accIs(a, want) {
		t.Fatalf("%s: %v of %d, code %d, want %v", what, a, a.Fm, code, want)
	}
	if !impl.AccOk(a) {
		t.Fatalf("%s: %v of %d is not right", what, a, a.Fm)
	}
}

func checkNoAcc(t *testing.T, what string, a impl.Acc, code int64, want int64) {
	t.Helper()
	if code != want || !accIs(a, impl.Acc{}) {
		t.Errorf("%s: %v, code %d, want %d", what, a, code, want)
	}
}

func checkAccRound(t *testing.T, f form, a impl.Acc) {
	t.Helper()
	for _, mode := range modes {
		want, told := f.accRounded(mode, a)
		if x, flags, ok := impl.AccRound(a, mode); !ok || x != want || flags != told {
			t.Errorf("%d mode %d of %v: %x %d %v, want %x %d", f.fm, mode, a, x, flags, ok, want, told)
		}
	}
}

// added is a with one term more, as the program has it.
func added(t *testing.T, a impl.Acc, x term) impl.Acc {
	t.Helper()
	var b impl.Acc
	var code int64
	if x.twice {
		b, code = impl.AccMul(a, x.x, x.y)
	} else {
		b, code = impl.AccAdd(a, x.x)
	}
	if code != impl.AcOk {
		t.Fatalf("%v takes no term: %d", a, code)
	}
	return b
}

func accumulated(t *testing.T, f form, terms []term) impl.Acc {
	t.Helper()
	a := impl.AccNew(f.fm)
	for _, x := range terms {
		a = added(t, a, x)
	}
	return a
}

// bound is as far from 0 as a sum of so many terms may be.
func (f form) bound(terms int64) *big.Int {
	b := map[int64]uint{32: 554, 64: 4196}[f.fm]
	return new(big.Int).Lsh(big.NewInt(terms), b)
}

func plus(n *big.Int, d int64) *big.Int { return new(big.Int).Add(n, big.NewInt(d)) }

func negative(n *big.Int) *big.Int { return new(big.Int).Neg(n) }

func TestNumbersOfAccumulators(t *testing.T) {
	if impl.MaxTerms != 1000000 || impl.AcOk != 0 || impl.AcBad != 1 || impl.AcFloat != 2 || impl.AcFull != 3 {
		t.Error("a constant of chapter 7")
	}
}

func TestAccNew(t *testing.T) {
	for _, f := range forms {
		a := impl.AccNew(f.fm)
		if !accIs(a, impl.Acc{Fm: f.fm}) || !impl.AccOk(a) {
			t.Errorf("AccNew of %d: %v", f.fm, a)
		}
	}
	for _, fm := range noFormats {
		if a := impl.AccNew(fm); !accIs(a, impl.Acc{}) || impl.AccOk(a) {
			t.Errorf("AccNew of %d: %v", fm, a)
		}
	}
}

// rightAccs: such that are right, at the edges of each rule.
func (f form) rightAccs() []impl.Acc {
	l := []impl.Acc{{Fm: f.fm}, {Fm: f.fm, Sum: impl.Wide{Limbs: []uint32{}}}}
	for _, terms := range []int64{1, 2, 3, 1000, impl.MaxTerms - 1, impl.MaxTerms} {
		b := f.bound(terms)
		for _, n := range []*big.Int{new(big.Int), big.NewInt(1), plus(b, -1), b} {
			l = append(l, impl.Acc{Fm: f.fm, Terms: terms, Sum: wideOfBig(n)}, impl.Acc{Fm: f.fm, Terms: terms, Sum: wideOfBig(negative(n))})
		}
	}
	for _, a := range slices.Clone(l) {
		if a.Terms == 0 {
			continue
		}
		for _, flags := range allFlags() {
			nan, bad, all := flags[0], flags[1], flags[4]
			if bad && !nan || all {
				continue
			}
			l = append(l, withFlags(a, flags))
		}
		if len(a.Sum.Limbs) == 0 {
			l = append(l, withFlags(a, [5]bool{4: true}))
		}
	}
	return l
}

// wrongAccs: such that are not right, each for one reason alone.
func (f form) wrongAccs() []impl.Acc {
	var l []impl.Acc
	for _, fm := range noFormats {
		l = append(l, impl.Acc{Fm: fm}, impl.Acc{Fm: fm, Terms: 1, Sum: impl.WideOf(1)})
	}
	for _, w := range wrongWides() {
		l = append(l, impl.Acc{Fm: f.fm, Terms: impl.MaxTerms, Sum: w}, impl.Acc{Fm: f.fm, Terms: 1, Sum: w, Plus: true})
	}
	for _, terms := range []int64{0, 1, 2, 1000, impl.MaxTerms} {
		n := plus(f.bound(terms), 1)
		l = append(l, impl.Acc{Fm: f.fm, Terms: terms, Sum: wideOfBig(n)}, impl.Acc{Fm: f.fm, Terms: terms, Sum: wideOfBig(negative(n))})
	}
	l = append(l, impl.Acc{Fm: f.fm, Terms: impl.MaxTerms, Sum: wideOfBig(greatestWide())})
	for _, terms := range []int64{-1, -impl.MaxTerms, math.MinInt64, impl.MaxTerms + 1, 2 * impl.MaxTerms, 1 << 32, math.MaxInt64} {
		l = append(l, impl.Acc{Fm: f.fm, Terms: terms}, impl.Acc{Fm: f.fm, Terms: terms, Nan: true})
	}
	return append(l,
		impl.Acc{Fm: f.fm, Terms: 1, Bad: true},
		impl.Acc{Fm: f.fm, Terms: 2, Bad: true, Plus: true, Minus: true},
		impl.Acc{Fm: f.fm, Nan: true},
		impl.Acc{Fm: f.fm, Nan: true, Bad: true},
		impl.Acc{Fm: f.fm, Plus: true},
		impl.Acc{Fm: f.fm, Minus: true},
		impl.Acc{Fm: f.fm, AllMinus: true},
		impl.Acc{Fm: f.fm, Terms: 2, AllMinus: true, Nan: true},
		impl.Acc{Fm: f.fm, Terms: 2, AllMinus: true, Nan: true, Bad: true},
		impl.Acc{Fm: f.fm, Terms: 2, AllMinus: true, Plus: true},
		impl.Acc{Fm: f.fm, Terms: 2, AllMinus: true, Minus: true},
		impl.Acc{Fm: f.fm, Terms: 2, AllMinus: true, Sum: impl.WideOf(1)},
		impl.Acc{Fm: f.fm, Terms: 2, AllMinus: true, Sum: impl.WideOf(-1)},
	)
}

func TestAccOk(t *testing.T) {
	for _, f := range forms {
		for _, a := range f.rightAccs() {
			if !impl.AccOk(a) {
				t.Errorf("%v is right", a)
			}
		}
		for _, a := range f.wrongAccs() {
			if impl.AccOk(a) {
				t.Errorf("%v is not right", a)
			}
		}
	}
}

func TestAccOkOfAllFlags(t *testing.T) {
	for _, f := range forms {
		for _, flags := range allFlags() {
			for _, terms := range []int64{-1, 0, 1, impl.MaxTerms, impl.MaxTerms + 1} {
				for _, n := range []int64{0, 1, -1} {
					a := withFlags(impl.Acc{Fm: f.fm, Terms: terms, Sum: impl.WideOf(n)}, flags)
					some := a.Nan || a.Bad || a.Plus || a.Minus
					want := terms >= 0 && terms <= impl.MaxTerms && (terms > 0 || n == 0 && !some && !a.AllMinus) && (a.Nan || !a.Bad)
					if a.AllMinus && (some || n != 0) {
						want = false
					}
					if impl.AccOk(a) != want {
						t.Errorf("%v is right: %v", a, !want)
					}
				}
			}
		}
	}
}

func TestWrongAccsAreRefused(t *testing.T) {
	for _, f := range forms {
		right := impl.AccNew(f.fm)
		for _, a := range f.wrongAccs() {
			b, code := impl.AccAdd(a, f.one())
			checkNoAcc(t, "AccAdd", b, code, impl.AcBad)
			b, code = impl.AccMul(a, f.one(), f.one())
			checkNoAcc(t, "AccMul", b, code, impl.AcBad)
			b, code = impl.AccMerge(a, right)
			checkNoAcc(t, "AccMerge", b, code, impl.AcBad)
			b, code = impl.AccMerge(right, a)
			checkNoAcc(t, "AccMerge", b, code, impl.AcBad)
			b, code = impl.AccMerge(a, a)
			checkNoAcc(t, "AccMerge", b, code, impl.AcBad)
			checkNoAcc(t, "AccNegated", impl.AccNegated(a), impl.AcBad, impl.AcBad)
			for _, mode := range append(noModes, modes...) {
				if x, flags, ok := impl.AccRound(a, mode); ok || x != 0 || flags != 0 {
					t.Errorf("mode %d of %v: %x %d %v", mode, a, x, flags, ok)
				}
			}
		}
	}
}

// Each refusal, where all that come behind it would hold, too.
func TestFirstReasonOfARefusal(t *testing.T) {
	for _, f := range forms {
		full := impl.Acc{Fm: f.fm, Terms: impl.MaxTerms}
		wrong := impl.Acc{Fm: f.fm, Terms: impl.MaxTerms, Bad: true}
		for _, no := range f.notFloats() {
			for _, r := range []struct {
				a    impl.Acc
				want int64
			}{{wrong, impl.AcBad}, {full, impl.AcFloat}, {impl.AccNew(f.fm), impl.AcFloat}} {
				a, code := impl.AccAdd(r.a, no)
				checkNoAcc(t, "AccAdd", a, code, r.want)
				for _, x := range []uint64{0, f.one(), f.inf, f.nan, no} {
					a, code = impl.AccMul(r.a, no, x)
					checkNoAcc(t, "AccMul", a, code, r.want)
					a, code = impl.AccMul(r.a, x, no)
					checkNoAcc(t, "AccMul", a, code, r.want)
				}
			}
		}
		a, code := impl.AccAdd(wrong, f.one())
		checkNoAcc(t, "AccAdd", a, code, impl.AcBad)
		other := impl.Acc{Fm: 96 - f.fm, Terms: impl.MaxTerms}
		for _, r := range []struct {
			a, b impl.Acc
			want int64
		}{
			{wrong, other, impl.AcBad}, {wrong, full, impl.AcBad}, {wrong, impl.AccNew(f.fm), impl.AcBad},
			{full, other, impl.AcFloat}, {impl.AccNew(f.fm), other, impl.AcFloat}, {impl.AccNew(f.fm), impl.AccNew(96 - f.fm), impl.AcFloat},
			{full, full, impl.AcFull},
		} {
			a, code := impl.AccMerge(r.a, r.b)
			checkNoAcc(t, "AccMerge", a, code, r.want)
			a, code = impl.AccMerge(r.b, r.a)
			checkNoAcc(t, "AccMerge", a, code, r.want)
		}
	}
}

func TestAccOfMaxTerms(t *testing.T) {
	for _, f := range forms {
		almost := impl.Acc{Fm: f.fm, Terms: impl.MaxTerms - 1, Sum: wideOfBig(f.bound(impl.MaxTerms - 1))}
		for _, x := range []term{one(f.one()), one(f.sign), one(f.nan), one(f.inf), two(f.greatest, f.greatest), two(0, f.inf)} {
			a := added(t, almost, x)
			if a.Terms != impl.MaxTerms || !impl.AccOk(a) {
				t.Errorf("%d: %v", f.fm, a)
			}
			b, code := impl.AccAdd(a, x.x)
			checkNoAcc(t, "AccAdd", b, code, impl.AcFull)
			b, code = impl.AccMul(a, x.x, x.y)
			checkNoAcc(t, "AccMul", b, code, impl.AcFull)
		}
	}
}

func TestMergeToMaxTerms(t *testing.T) {
	for _, f := range forms {
		for _, n := range []int64{0, 1, 2, 300, impl.MaxTerms / 2, impl.MaxTerms - 1, impl.MaxTerms} {
			rest := impl.MaxTerms - n
			a := impl.Acc{Fm: f.fm, Terms: n, Sum: wideOfBig(f.bound(n))}
			b := impl.Acc{Fm: f.fm, Terms: rest, Sum: wideOfBig(f.bound(rest))}
			c, code := impl.AccMerge(a, b)
			checkAcc(t, "AccMerge", c, code, impl.Acc{Fm: f.fm, Terms: impl.MaxTerms, Sum: wideOfBig(f.bound(impl.MaxTerms))})
			if n > 0 {
				b = impl.Acc{Fm: f.fm, Terms: rest + 1, Sum: b.Sum}
				c, code = impl.AccMerge(a, b)
				checkNoAcc(t, "AccMerge", c, code, impl.AcFull)
				c, code = impl.AccMerge(b, a)
				checkNoAcc(t, "AccMerge", c, code, impl.AcFull)
			}
		}
	}
}

// repeated is an accumulator of n times the same term, by merging it with itself.
func repeated(t *testing.T, f form, x term, n int64) impl.Acc {
	t.Helper()
	all := impl.AccNew(f.fm)
	some := added(t, impl.AccNew(f.fm), x)
	for ; n > 0; n /= 2 {
		if n%2 == 1 {
			a, code := impl.AccMerge(all, some)
			if code != impl.AcOk {
				t.Fatal(code)
			}
			all = a
		}
		if n > 1 {
			some, _ = impl.AccMerge(some, some)
		}
	}
	return all
}

func TestAMillionTerms(t *testing.T) {
	for _, f := range forms {
		for _, x := range []term{one(1), one(f.sign), one(f.greatest), two(1, 1), two(f.greatest, f.greatest), two(f.greatest, f.sign|f.greatest), one(f.inf), one(f.inf + 1)} {
			want := f.accOf([]term{x})
			want.Terms = impl.MaxTerms
			want.Sum = wideOfBig(new(big.Int).Mul(bigOf(want.Sum), big.NewInt(impl.MaxTerms)))
			a := repeated(t, f, x, impl.MaxTerms)
			checkAcc(t, "a million terms", a, impl.AcOk, want)
			checkAccRound(t, f, a)
			b, code := impl.AccMerge(a, added(t, impl.AccNew(f.fm), x))
			checkNoAcc(t, "AccMerge", b, code, impl.AcFull)
		}
	}
}

func TestAccOfCorners(t *testing.T) {
	for _, f := range forms {
		l := f.corners()
		for _, x := range l {
			a := accumulated(t, f, ones(x))
			checkAcc(t, "one term", a, impl.AcOk, f.accOf(ones(x)))
			checkAccRound(t, f, a)
			for _, y := range l {
				for _, terms := range [][]term{ones(x, y), {two(x, y)}, {one(f.sign), two(x, y)}, {two(x, y), one(f.sign)}} {
					a := accumulated(t, f, terms)
					checkAcc(t, "terms", a, impl.AcOk, f.accOf(terms))
					want, told := f.accRounded(impl.RmDown, a)
					if bits, flags, ok := impl.AccRound(a, impl.RmDown); !ok || bits != want || flags != told {
						t.Errorf("%d of %v: %x %d %v", f.fm, terms, bits, flags, ok)
					}
				}
			}
		}
	}
}

// One term is as the float itself, where that is not 0; so is a product as FloatMul.
func TestAccOfOneTermAsArithmetic(t *testing.T) {
	for _, f := range forms {
		l := f.corners()
		for _, x := range l {
			for _, y := range l {
				for _, mode := range modes {
					want, told := f.multiplied(mode, x, y)
					if f.isZero(want) && told == 0 {
						continue
					}
					bits, flags, ok := impl.AccRound(accumulated(t, f, []term{two(x, y)}), mode)
					if !ok || bits != want || flags != told {
						t.Errorf("%d mode %d of %x times %x: %x %d", f.fm, mode, x, y, bits, flags)
					}
				}
			}
		}
	}
}

func TestFlagsOfTerms(t *testing.T) {
	for _, f := range forms {
		minus := f.sign
		for _, r := range []struct {
			terms []term
			want  [5]bool // Nan, Bad, Plus, Minus, AllMinus
		}{
			{nil, [5]bool{}},
			{ones(0), [5]bool{}},
			{ones(minus), [5]bool{4: true}},
			{ones(minus, minus, minus), [5]bool{4: true}},
			{ones(minus, 0), [5]bool{}},
			{ones(0, minus), [5]bool{}},
			{ones(minus, 0, minus), [5]bool{}},
			{ones(minus, minus|1), [5]bool{}},
			{ones(f.one(), minus|f.one(), minus), [5]bool{}},
			{ones(minus, minus|f.inf), [5]bool{3: true}},
			{ones(minus|f.inf, minus), [5]bool{3: true}},
			{ones(minus, f.nan), [5]bool{0: true}},
			{ones(f.nan, minus), [5]bool{0: true}},
			{ones(minus | f.nan), [5]bool{0: true}},
			{ones(f.nan + 1), [5]bool{0: true}},
			{ones(f.all), [5]bool{0: true}},
			{ones(f.inf + 1), [5]bool{0: true, 1: true}},
			{ones(minus | (f.nan - 1)), [5]bool{0: true, 1: true}},
			{ones(f.nan-1, f.nan), [5]bool{0: true, 1: true}},
			{ones(f.inf), [5]bool{2: true}},
			{ones(f.inf, minus|f.inf), [5]bool{2: true, 3: true}},
			{ones(f.inf, minus|f.inf, f.nan), [5]bool{0: true, 2: true, 3: true}},
			{ones(f.inf, minus|f.inf, f.inf+1), [5]bool{0: true, 1: true, 2: true, 3: true}},
			{[]term{two(0, minus)}, [5]bool{4: true}},
			{[]term{two(minus, f.one())}, [5]bool{4: true}},
			{[]term{two(f.greatest, minus)}, [5]bool{4: true}},
			{[]term{two(minus|1, 0), one(minus), two(minus, 1)}, [5]bool{4: true}},
			{[]term{two(minus, minus)}, [5]bool{}},
			{[]term{two(0, 0)}, [5]bool{}},
			{[]term{two(minus|1, 1)}, [5]bool{}},
			{[]term{two(0, f.inf)}, [5]bool{0: true, 1: true}},
			{[]term{two(minus|f.inf, 0)}, [5]bool{0: true, 1: true}},
			{[]term{two(minus, f.inf), one(minus)}, [5]bool{0: true, 1: true}},
			{[]term{two(0, f.nan)}, [5]bool{0: true}},
			{[]term{two(f.nan, f.inf)}, [5]bool{0: true}},
			{[]term{two(minus, f.nan)}, [5]bool{0: true}},
			{[]term{two(f.nan, f.inf+1)}, [5]bool{0: true, 1: true}},
			{[]term{two(minus|f.inf, f.one())}, [5]bool{3: true}},
			{[]term{two(minus|f.inf, minus|1)}, [5]bool{2: true}},
			{[]term{two(f.inf, minus|f.inf)}, [5]bool{3: true}},
			{[]term{two(f.greatest, f.greatest)}, [5]bool{}},
		} {
			a := accumulated(t, f, r.terms)
			checkAcc(t, "AccAdd and AccMul", a, impl.AcOk, f.accOf(r.terms))
			if flagsOf(a) != r.want {
				t.Errorf("%d: %v has %v, want %v", f.fm, r.terms, flagsOf(a), r.want)
			}
		}
	}
}

// someTerms: terms of one kind, so that each kind of sum comes up often.
func (f form) someTerms(d *dice, n int) []term {
	all := f.floats()
	zeros := []uint64{0, f.sign, f.sign, f.sign}
	kind := d.below(6)
	near := d.next() & (f.sign - 1) % f.inf
	float := func() uint64 {
		switch kind {
		case 0:
			return all[d.below(len(all))]
		case 1:
			return zeros[d.below(4)]
		case 2:
			return f.sign
		}
		if x := all[d.below(len(all))]; kind == 3 && f.isFinite(x) {
			return x
		}
		return f.near(d, near)
	}
	var l []term
	for len(l) < n {
		x := one(float())
		if d.below(2) == 0 {
			x = two(float(), float())
			if kind == 2 {
				x.y &^= f.sign
			}
		}
		l = append(l, x)
		if o := x; d.below(3) == 0 {
			o.x ^= f.sign
			l = append(l, o)
		}
	}
	return l[:n]
}

func TestAccOfAnyTerms(t *testing.T) {
	for _, f := range forms {
		d := &dice{71}
		zeros, allMinus := 0, 0
		for range 300 {
			terms := f.someTerms(d, 1+d.below(12))
			a := impl.AccNew(f.fm)
			for i, x := range terms {
				a = added(t, a, x)
				checkAcc(t, "terms", a, impl.AcOk, f.accOf(terms[:i+1]))
			}
			checkAccRound(t, f, a)
			if len(a.Sum.Limbs) == 0 {
				zeros++
			}
			if a.AllMinus {
				allMinus++
			}
		}
		if zeros < 20 || allMinus < 10 {
			t.Errorf("%d: the terms are too much alike: %d, %d", f.fm, zeros, allMinus)
		}
	}
}

func TestMergeWithNoTerms(t *testing.T) {
	for _, f := range forms {
		none := impl.AccNew(f.fm)
		for _, a := range append(f.rightAccs(), accumulated(t, f, ones(f.sign)), accumulated(t, f, ones(f.sign, f.sign)), accumulated(t, f, ones(0))) {
			b, code := impl.AccMerge(a, none)
			checkAcc(t, "with none", b, code, a)
			b, code = impl.AccMerge(none, a)
			checkAcc(t, "none with", b, code, a)
		}
	}
}

func TestMergeOfZerosBelow0(t *testing.T) {
	for _, f := range forms {
		minus := accumulated(t, f, ones(f.sign, f.sign))
		for _, r := range []struct {
			terms []term
			want  bool
		}{
			{nil, true},
			{ones(f.sign), true},
			{[]term{two(f.sign, f.greatest)}, true},
			{ones(f.sign, f.sign, f.sign), true},
			{ones(0), false},
			{ones(f.sign, 0), false},
			{ones(1), false},
			{ones(f.sign | 1), false},
			{ones(f.one(), f.sign|f.one()), false},
			{ones(f.inf), false},
			{ones(f.sign | f.inf), false},
			{ones(f.nan), false},
			{ones(f.sign | f.nan), false},
			{[]term{two(f.sign, f.inf)}, false},
		} {
			want := f.accOf(append(ones(f.sign, f.sign), r.terms...))
			other := accumulated(t, f, r.terms)
			a, code := impl.AccMerge(minus, other)
			checkAcc(t, "zeros below 0 with", a, code, want)
			b, code := impl.AccMerge(other, minus)
			checkAcc(t, "with zeros below 0", b, code, want)
			if a.AllMinus != r.want || b.AllMinus != r.want {
				t.Errorf("%d: zeros below 0 and %v: %v", f.fm, r.terms, a)
			}
		}
		if a, code := impl.AccMerge(impl.AccNew(f.fm), impl.AccNew(f.fm)); code != impl.AcOk || !accIs(a, impl.AccNew(f.fm)) {
			t.Errorf("%d: none and none: %v", f.fm, a)
		}
	}
}

func TestMergeOfAllFlags(t *testing.T) {
	for _, f := range forms {
		var l []impl.Acc
		for _, a := range f.rightAccs() {
			if a.Terms <= 2 && len(a.Sum.Limbs) <= 1 {
				l = append(l, a)
			}
		}
		for _, a := range l {
			for _, b := range l {
				x, y := flagsOf(a), flagsOf(b)
				var flags [5]bool
				for i := range 4 {
					flags[i] = x[i] || y[i]
				}
				flags[4] = a.AllMinus && b.AllMinus || a.AllMinus && b.Terms == 0 || a.Terms == 0 && b.AllMinus
				want := impl.Acc{Fm: f.fm, Terms: a.Terms + b.Terms, Sum: wideOfBig(new(big.Int).Add(bigOf(a.Sum), bigOf(b.Sum)))}
				c, code := impl.AccMerge(a, b)
				checkAcc(t, "AccMerge", c, code, withFlags(want, flags))
			}
		}
	}
}

func TestAccNegated(t *testing.T) {
	for _, f := range forms {
		for _, a := range f.rightAccs() {
			want := a
			want.Sum = wideOfBig(negative(bigOf(a.Sum)))
			want.Plus, want.Minus, want.AllMinus = a.Minus, a.Plus, false
			b := impl.AccNegated(a)
			checkAcc(t, "AccNegated", b, impl.AcOk, want)
			back := a
			back.AllMinus = false
			checkAcc(t, "AccNegated twice", impl.AccNegated(b), impl.AcOk, back)
		}
	}
}

func TestAccNegatedOfTerms(t *testing.T) {
	for _, f := range forms {
		d := &dice{72}
		for range 200 {
			terms := f.someTerms(d, d.below(8))
			var turned []term
			for _, x := range terms {
				x.x ^= f.sign
				turned = append(turned, x)
			}
			want := f.accOf(turned)
			want.AllMinus = false
			checkAcc(t, "AccNegated", impl.AccNegated(accumulated(t, f, terms)), impl.AcOk, want)
		}
	}
}

func TestAccRoundOfRightOnes(t *testing.T) {
	for _, f := range forms {
		for _, a := range f.rightAccs() {
			checkAccRound(t, f, a)
			for _, mode := range noModes {
				if x, flags, ok := impl.AccRound(a, mode); ok || x != 0 || flags != 0 {
					t.Errorf("%d mode %d: %x %d %v", f.fm, mode, x, flags, ok)
				}
			}
		}
	}
}

func TestAccRoundByTable(t *testing.T) {
	for _, f := range forms {
		one, minus := f.one(), f.sign
		half := f.scaled(1, -int64(f.precision)) // of the step behind 1
		for _, r := range []struct {
			terms []term
			want  [6]uint64 // RmEven, RmZero, RmUp, RmDown, RmAway, RmTies
			flags int64
		}{
			{nil, [6]uint64{}, 0},
			{ones(0), [6]uint64{3: minus}, 0},
			{ones(minus), [6]uint64{minus, minus, minus, minus, minus, minus}, 0},
			{ones(minus, minus), [6]uint64{minus, minus, minus, minus, minus, minus}, 0},
			{ones(minus, 0), [6]uint64{3: minus}, 0},
			{ones(one, minus|one), [6]uint64{3: minus}, 0},
			{ones(f.greatest, minus|1, minus|f.greatest, 1), [6]uint64{3: minus}, 0},
			{[]term{two(1, 1), two(1, minus|1)}, [6]uint64{3: minus}, 0},
			{[]term{two(1, 1)}, [6]uint64{2: 1}, 3},
			{[]term{two(minus|1, 1)}, [6]uint64{minus, minus, minus, minus | 1, minus, minus}, 3},
			{ones(one, half), [6]uint64{one, one, one + 1, one, one + 1, one}, 1},
			{ones(one+1, half), [6]uint64{one + 2, one + 1, one + 2, one + 1, one + 2, one + 1}, 1},
			{ones(minus|one, minus|half), [6]uint64{minus | one, minus | one, minus | one, minus | (one + 1), minus | (one + 1), minus | one}, 1},
			{ones(one, half, 1), [6]uint64{one + 1, one, one + 1, one, one + 1, one + 1}, 1},
			{ones(one, half, minus|1), [6]uint64{one, one, one + 1, one, one, one}, 1},
			{[]term{{x: one}, {x: half}, two(1, 1)}, [6]uint64{one + 1, one, one + 1, one, one + 1, one + 1}, 1},
			{[]term{{x: one}, two(1, minus|1)}, [6]uint64{one, one - 1, one, one - 1, one, one}, 1},
			{ones(f.greatest, f.greatest), [6]uint64{f.inf, f.greatest, f.inf, f.greatest, f.inf, f.inf}, 5},
			{ones(minus|f.greatest, minus|f.greatest), [6]uint64{minus | f.inf, minus | f.greatest, minus | f.greatest, minus | f.inf, minus | f.inf, minus | f.inf}, 5},
			{ones(f.greatest, f.greatest, minus|f.greatest), [6]uint64{f.greatest, f.greatest, f.greatest, f.greatest, f.greatest, f.greatest}, 0},
			{ones(f.greatest, f.inf), [6]uint64{f.inf, f.inf, f.inf, f.inf, f.inf, f.inf}, 0},
			{ones(minus|f.inf, one, minus|f.inf), [6]uint64{minus | f.inf, minus | f.inf, minus | f.inf, minus | f.inf, minus | f.inf, minus | f.inf}, 0},
			{ones(f.inf, minus|f.inf), [6]uint64{f.nan, f.nan, f.nan, f.nan, f.nan, f.nan}, 8},
			{ones(f.inf, minus|f.inf, f.nan), [6]uint64{f.nan, f.nan, f.nan, f.nan, f.nan, f.nan}, 8},
			{ones(minus|f.all, f.inf), [6]uint64{f.nan, f.nan, f.nan, f.nan, f.nan, f.nan}, 0},
			{ones(minus|f.nan, minus), [6]uint64{f.nan, f.nan, f.nan, f.nan, f.nan, f.nan}, 0},
			{ones(one, f.inf+1), [6]uint64{f.nan, f.nan, f.nan, f.nan, f.nan, f.nan}, 8},
			{[]term{two(f.inf, minus)}, [6]uint64{f.nan, f.nan, f.nan, f.nan, f.nan, f.nan}, 8},
		} {
			a := accumulated(t, f, r.terms)
			for _, mode := range modes {
				x, flags, ok := impl.AccRound(a, mode)
				if !ok || x != r.want[mode] || flags != r.flags {
					t.Errorf("%d mode %d of %v: %x %d %v, want %x %d", f.fm, mode, r.terms, x, flags, ok, r.want[mode], r.flags)
				}
			}
		}
	}
}

// accCalls: each answer that holds an accumulator.
func accCalls(f form, a impl.Acc, b impl.Acc) []func() impl.Acc {
	return []func() impl.Acc{
		func() impl.Acc { c, _ := impl.AccAdd(a, 0); return c },
		func() impl.Acc { c, _ := impl.AccAdd(a, f.one()); return c },
		func() impl.Acc { c, _ := impl.AccAdd(a, f.inf); return c },
		func() impl.Acc { c, _ := impl.AccAdd(a, f.nan); return c },
		func() impl.Acc { c, _ := impl.AccMul(a, f.greatest, f.greatest); return c },
		func() impl.Acc { c, _ := impl.AccMul(a, 0, f.inf); return c },
		func() impl.Acc { c, _ := impl.AccMerge(a, b); return c },
		func() impl.Acc { c, _ := impl.AccMerge(a, impl.AccNew(f.fm)); return c },
		func() impl.Acc { c, _ := impl.AccMerge(impl.AccNew(f.fm), a); return c },
		func() impl.Acc { return impl.AccNegated(a) },
		func() impl.Acc { impl.AccOk(a); impl.AccRound(a, impl.RmUp); return impl.Acc{} },
	}
}

func TestAccumulatorsStayAsTheyWere(t *testing.T) {
	for _, f := range forms {
		for _, n := range []*big.Int{new(big.Int), big.NewInt(1), big.NewInt(-77), power(500), negative(power(500)), f.bound(7), negative(f.bound(7))} {
			for _, m := range []*big.Int{new(big.Int), big.NewInt(1), negative(n), n, negative(power(500))} {
				v, w := wideOfBig(n), wideOfBig(m)
				a := impl.Acc{Fm: f.fm, Terms: 7, Sum: roomy(v)}
				b := impl.Acc{Fm: f.fm, Terms: 9, Sum: roomy(w)}
				for i, call := range accCalls(f, a, b) {
					c := call()
					again := call()
					if !accIs(c, again) {
						t.Errorf("call %d is another one the second time", i)
					}
					was := slices.Clone(again.Sum.Limbs)
					scribble(c.Sum)
					if !untouched(a.Sum, v) || !untouched(b.Sum, w) {
						t.Errorf("call %d wrote into an argument, or shares its memory", i)
					}
					if !slices.Equal(was, again.Sum.Limbs) {
						t.Errorf("two answers of call %d share memory", i)
					}
				}
			}
		}
	}
}

// mergedAnyhow parts the terms among accumulators and merges these, whichever come first.
func mergedAnyhow(t *testing.T, d *dice, f form, terms []term) impl.Acc {
	t.Helper()
	parts := make([]impl.Acc, 1+d.below(6))
	for i := range parts {
		parts[i] = impl.AccNew(f.fm)
	}
	for _, x := range terms {
		i := d.below(len(parts))
		parts[i] = added(t, parts[i], x)
	}
	for len(parts) > 1 {
		i := d.below(len(parts) - 1)
		a, code := impl.AccMerge(parts[i], parts[i+1])
		b, turned := impl.AccMerge(parts[i+1], parts[i])
		if code != impl.AcOk || turned != impl.AcOk || !accIs(a, b) {
			t.Fatalf("%d: %v and %v: %d %d", f.fm, parts[i], parts[i+1], code, turned)
		}
		parts[i] = a
		parts = slices.Delete(parts, i+1, i+2)
	}
	return parts[0]
}

func TestPromise7Merged(t *testing.T) {
	for _, f := range forms {
		d := &dice{73}
		for range 250 {
			terms := f.someTerms(d, d.below(20))
			a := mergedAnyhow(t, d, f, terms)
			checkAcc(t, "merged", a, impl.AcOk, f.accOf(terms))
			if !accIs(a, accumulated(t, f, terms)) {
				t.Errorf("%d: %v is not what it is without merging", f.fm, terms)
			}
		}
	}
}

func TestPromise7Rounded(t *testing.T) {
	for _, f := range forms {
		d := &dice{74}
		seen := 0
		for range 400 {
			terms := f.someTerms(d, 1+d.below(15))
			sum := impl.Wide{}
			finite := true
			for _, x := range terms {
				o := f.outcome(x)
				finite = finite && !o.nan && !o.inf
				sum, _ = impl.WideAdd(sum, wideOfBig(o.n))
			}
			if !finite || len(sum.Limbs) == 0 {
				continue
			}
			seen++
			a := mergedAnyhow(t, d, f, terms)
			for _, mode := range modes {
				want, told, _ := impl.Rounded(f.fm, mode, sum, 2*f.unit)
				if x, flags, ok := impl.AccRound(a, mode); !ok || x != want || flags != told {
					t.Errorf("%d mode %d: %x %d %v, want %x %d", f.fm, mode, x, flags, ok, want, told)
				}
			}
		}
		if seen < 100 {
			t.Errorf("%d: only %d", f.fm, seen)
		}
	}
}
