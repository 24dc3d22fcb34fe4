package tests

import (
	"math/big"
	"slices"
	"testing"

	"loop.example/g00672/impl"
)

type vectorSum func(fm int64, mode int64, xs []uint64) impl.Res

// oneVector: the sums of one vector, and which terms each has of a float.
var oneVector = []struct {
	name string
	sum  vectorSum
	term func(f form, x uint64) term
}{
	{"SumOf", impl.SumOf, func(f form, x uint64) term { return one(x) }},
	{"SumAbs", impl.SumAbs, func(f form, x uint64) term { return one(x &^ f.sign) }},
	{"SumSquare", impl.SumSquare, func(f form, x uint64) term { return two(x, x) }},
}

func factors(xs []uint64, ys []uint64) []term {
	var l []term
	for i := range xs {
		l = append(l, two(xs[i], ys[i]))
	}
	return l
}

// res is what must be answered of such terms.
func (f form) res(mode int64, terms []term) impl.Res {
	bits, flags := f.accRounded(mode, f.accOf(terms))
	return impl.Res{Bits: bits, Flags: flags}
}

func checkRes(t *testing.T, what string, f form, mode int64, got impl.Res, want impl.Res) {
	t.Helper()
	if got != want {
		t.Errorf("%s %d mode %d: %x, want %x", what, f.fm, mode, got, want)
	}
}

// checkSumsOf holds every sum of the vectors against the exact one, rounded once.
func checkSumsOf(t *testing.T, f form, mode int64, xs []uint64, ys []uint64) {
	t.Helper()
	for _, s := range oneVector {
		var terms []term
		for _, x := range xs {
			terms = append(terms, s.term(f, x))
		}
		checkRes(t, s.name, f, mode, s.sum(f.fm, mode, xs), f.res(mode, terms))
	}
	checkRes(t, "Dot", f, mode, impl.Dot(f.fm, mode, xs, ys), f.res(mode, factors(xs, ys)))
}

func TestNumbersOfSums(t *testing.T) {
	if impl.MaxVector != 300 || impl.ReOk != 0 || impl.ReForm != 1 || impl.ReMany != 2 || impl.ReLen != 3 || impl.ReFloat != 4 || impl.ReOpen != 5 || impl.RePlan != 6 {
		t.Error("a constant of chapter 8")
	}
}

func filled(n int, x uint64) []uint64 {
	l := make([]uint64, n)
	for i := range l {
		l[i] = x
	}
	return l
}

func TestVectorOk(t *testing.T) {
	for _, f := range forms {
		for _, n := range []int{0, 1, 2, impl.MaxVector - 1, impl.MaxVector} {
			for _, x := range f.corners() {
				if !impl.VectorOk(f.fm, filled(n, x)) {
					t.Errorf("%d: %d of %x are a vector", f.fm, n, x)
				}
			}
			for _, no := range f.notFloats() {
				for i := range n {
					l := filled(n, f.one())
					l[i] = no
					if impl.VectorOk(f.fm, l) {
						t.Errorf("%d: %x at place %d of %d is no float", f.fm, no, i, n)
					}
				}
			}
			for _, fm := range noFormats {
				if impl.VectorOk(fm, filled(n, 0)) {
					t.Errorf("%d is no format", fm)
				}
			}
		}
		for _, n := range []int{impl.MaxVector + 1, impl.MaxVector + 2, 2 * impl.MaxVector, 100000} {
			if impl.VectorOk(f.fm, filled(n, f.one())) {
				t.Errorf("%d: %d are no vector", f.fm, n)
			}
		}
		if !impl.VectorOk(f.fm, nil) {
			t.Errorf("%d: none are a vector", f.fm)
		}
	}
}

// Each refusal, where all that come behind it would hold, too.
func TestFirstReasonOfNoSum(t *testing.T) {
	const no = 1 << 32 // no float of format 32
	few, many, wrong := filled(2, 0), filled(impl.MaxVector+1, no), []uint64{0, no}
	for _, r := range []struct {
		fm, mode int64
		xs       []uint64
		want     int64
	}{
		{33, 0, nil, impl.ReForm}, {0, 0, few, impl.ReForm}, {33, 0, many, impl.ReForm}, {33, 0, wrong, impl.ReForm},
		{32, 6, nil, impl.ReForm}, {32, -1, few, impl.ReForm}, {32, 6, many, impl.ReForm}, {64, 6, many, impl.ReForm}, {32, 6, wrong, impl.ReForm}, {33, 6, many, impl.ReForm},
		{32, 0, many, impl.ReMany}, {64, 5, many, impl.ReMany}, {32, 0, filled(impl.MaxVector+1, 0), impl.ReMany},
		{32, 0, wrong, impl.ReFloat}, {32, 0, []uint64{no, 0}, impl.ReFloat}, {32, 0, filled(impl.MaxVector, no), impl.ReFloat},
		{32, 0, []uint64{0x7fc00000, 0x7f800001, no}, impl.ReFloat}, {32, 0, []uint64{1 << 63}, impl.ReFloat},
		{32, 0, nil, impl.ReOk}, {64, 0, nil, impl.ReOk}, {32, 0, few, impl.ReOk}, {64, 5, filled(impl.MaxVector, 0), impl.ReOk},
	} {
		for _, s := range oneVector {
			if got := s.sum(r.fm, r.mode, r.xs); got != (impl.Res{Code: r.want}) {
				t.Errorf("%s %d mode %d of %d: %v, want %d", s.name, r.fm, r.mode, len(r.xs), got, r.want)
			}
		}
		if got := impl.Dot(r.fm, r.mode, r.xs, r.xs); got != (impl.Res{Code: r.want}) {
			t.Errorf("Dot %d mode %d of %d: %v, want %d", r.fm, r.mode, len(r.xs), got, r.want)
		}
	}
}

func TestFirstReasonOfNoDot(t *testing.T) {
	const no = 1 << 32
	few, many, wrong := filled(2, 0), filled(impl.MaxVector+1, no), []uint64{no, no, no}
	for _, r := range []struct {
		fm, mode int64
		xs, ys   []uint64
		want     int64
	}{
		{33, 0, many, few, impl.ReForm}, {32, 6, many, few, impl.ReForm}, {33, 0, few, nil, impl.ReForm}, {32, 6, wrong, few, impl.ReForm},
		{32, 0, many, few, impl.ReMany}, {32, 0, many, nil, impl.ReMany}, {32, 0, many, wrong, impl.ReMany}, {64, 0, many, few, impl.ReMany},
		{32, 0, filled(impl.MaxVector+1, 0), filled(impl.MaxVector, 0), impl.ReMany},
		{32, 0, few, nil, impl.ReLen}, {32, 0, wrong, few, impl.ReLen}, {64, 0, few, filled(3, 0), impl.ReLen}, {32, 0, wrong, nil, impl.ReLen},
		{32, 0, filled(impl.MaxVector, no), filled(impl.MaxVector-1, no), impl.ReLen},
		{32, 0, wrong, filled(3, 0), impl.ReFloat}, {32, 0, []uint64{0, 0, no}, filled(3, 0), impl.ReFloat}, {32, 0, wrong, wrong, impl.ReFloat},
		{64, 0, wrong, filled(3, 0), impl.ReOk}, {32, 0, []uint64{}, nil, impl.ReOk},
	} {
		for _, got := range []impl.Res{impl.Dot(r.fm, r.mode, r.xs, r.ys), impl.Dot(r.fm, r.mode, r.ys, r.xs)} {
			if got != (impl.Res{Code: r.want}) {
				t.Errorf("%d mode %d of %d and %d: %v, want %d", r.fm, r.mode, len(r.xs), len(r.ys), got, r.want)
			}
		}
	}
}

func TestSumsOfNoFormatAndNoMode(t *testing.T) {
	l := filled(3, 0x3f800000)
	check := func(fm int64, mode int64) {
		t.Helper()
		for _, s := range oneVector {
			if got := s.sum(fm, mode, l); got != (impl.Res{Code: impl.ReForm}) {
				t.Errorf("%s %d mode %d: %v", s.name, fm, mode, got)
			}
		}
		if got := impl.Dot(fm, mode, l, l); got != (impl.Res{Code: impl.ReForm}) {
			t.Errorf("Dot %d mode %d: %v", fm, mode, got)
		}
	}
	for _, fm := range noFormats {
		check(fm, impl.RmEven)
	}
	for _, mode := range noModes {
		check(32, mode)
		check(64, mode)
	}
}

func TestSumsByTable(t *testing.T) {
	for _, f := range forms {
		one, minus := f.one(), f.sign
		half := f.scaled(1, -int64(f.precision)) // of the step behind 1
		large := f.scaled(1, 100)
		for _, r := range []struct {
			name string
			got  impl.Res
			want impl.Res
		}{
			{"cancelled", impl.SumOf(f.fm, 0, []uint64{large, one, minus | large}), impl.Res{Bits: one}},
			{"cancelled, turned", impl.SumOf(f.fm, 0, []uint64{one, minus | large, large}), impl.Res{Bits: one}},
			{"halfway", impl.SumOf(f.fm, 0, []uint64{one, half}), impl.Res{Bits: one, Flags: 1}},
			{"just beyond halfway", impl.SumOf(f.fm, 0, []uint64{1, half, one}), impl.Res{Bits: one + 1, Flags: 1}},
			{"halves together", impl.SumOf(f.fm, 0, []uint64{one, half, half}), impl.Res{Bits: one + 1}},
			{"beyond and back", impl.SumOf(f.fm, 0, []uint64{f.greatest, f.greatest, minus | f.greatest}), impl.Res{Bits: f.greatest}},
			{"overflow", impl.SumOf(f.fm, impl.RmZero, filled(impl.MaxVector, f.greatest)), impl.Res{Bits: f.greatest, Flags: 5}},
			{"the least ones", impl.SumOf(f.fm, 0, filled(impl.MaxVector, minus|1)), impl.Res{Bits: minus | impl.MaxVector}},
			{"of many ones", impl.SumOf(f.fm, 0, filled(impl.MaxVector, one)), impl.Res{Bits: f.scaled(impl.MaxVector, 0)}},
			{"all zeros below 0", impl.SumOf(f.fm, 0, filled(impl.MaxVector, minus)), impl.Res{Bits: minus}},
			{"with one above", impl.SumOf(f.fm, 0, append(filled(9, minus), 0)), impl.Res{}},
			{"none, down", impl.SumOf(f.fm, impl.RmDown, nil), impl.Res{}},
			{"zeros, down", impl.SumOf(f.fm, impl.RmDown, filled(2, 0)), impl.Res{Bits: minus}},
			{"cancelled, down", impl.SumOf(f.fm, impl.RmDown, []uint64{one, minus | one}), impl.Res{Bits: minus}},
			{"infinities that are unlike", impl.SumOf(f.fm, 0, []uint64{f.inf, one, minus | f.inf}), impl.Res{Bits: f.nan, Flags: 8}},
			{"a quiet NaN", impl.SumOf(f.fm, 0, []uint64{f.inf, minus | f.all}), impl.Res{Bits: f.nan}},
			{"a signalling NaN", impl.SumOf(f.fm, 0, []uint64{one, f.inf + 1}), impl.Res{Bits: f.nan, Flags: 8}},
			{"infinity", impl.SumOf(f.fm, 0, []uint64{f.greatest, minus | f.inf}), impl.Res{Bits: minus | f.inf}},
			{"without signs", impl.SumAbs(f.fm, 0, []uint64{one, minus | one}), impl.Res{Bits: f.scaled(2, 0)}},
			{"zeros without signs", impl.SumAbs(f.fm, 0, filled(2, minus)), impl.Res{}},
			{"infinities without signs", impl.SumAbs(f.fm, 0, []uint64{f.inf, minus | f.inf}), impl.Res{Bits: f.inf}},
			{"a NaN without its sign", impl.SumAbs(f.fm, 0, []uint64{minus | (f.inf + 1)}), impl.Res{Bits: f.nan, Flags: 8}},
			{"squares", impl.SumSquare(f.fm, 0, []uint64{f.scaled(-3, 0), f.scaled(4, 0)}), impl.Res{Bits: f.scaled(25, 0)}},
			{"squares of the least", impl.SumSquare(f.fm, impl.RmUp, filled(impl.MaxVector, 1)), impl.Res{Bits: 1, Flags: 3}},
			{"squares of zeros below 0", impl.SumSquare(f.fm, 0, filled(2, minus)), impl.Res{}},
			{"squares beyond", impl.SumSquare(f.fm, 0, filled(impl.MaxVector, f.greatest)), impl.Res{Bits: f.inf, Flags: 5}},
			{"products beyond, and back", impl.Dot(f.fm, 0, []uint64{f.greatest, one, f.greatest}, []uint64{f.greatest, one, minus | f.greatest}), impl.Res{Bits: one}},
			{"products of zeros below 0", impl.Dot(f.fm, 0, []uint64{minus, 0}, []uint64{one, minus | one}), impl.Res{Bits: minus}},
			{"a product that is invalid", impl.Dot(f.fm, 0, []uint64{one, 0}, []uint64{one, minus | f.inf}), impl.Res{Bits: f.nan, Flags: 8}},
			{"a product of infinity", impl.Dot(f.fm, 0, []uint64{f.inf, one}, []uint64{minus | 1, one}), impl.Res{Bits: minus | f.inf}},
			{"no product", impl.Dot(f.fm, impl.RmDown, nil, nil), impl.Res{}},
		} {
			if r.got != r.want {
				t.Errorf("%d, %s: %x, want %x", f.fm, r.name, r.got, r.want)
			}
		}
	}
}

func TestSumsOfCorners(t *testing.T) {
	for _, f := range forms {
		l := f.corners()
		d := &dice{81}
		for _, a := range l {
			for _, b := range l {
				c := l[d.below(len(l))]
				checkSumsOf(t, f, modes[d.below(6)], []uint64{a}, []uint64{b})
				checkSumsOf(t, f, modes[d.below(6)], []uint64{a, b}, []uint64{b, c})
				checkSumsOf(t, f, modes[d.below(6)], []uint64{a, b, c}, []uint64{c, a, b})
			}
		}
	}
}

// finites: n finite floats; of each kind sums cancel, stay small or go beyond the greatest one.
func (f form) finites(d *dice, n int) []uint64 {
	all := f.floats()
	near := d.next() & (f.sign - 1) % f.inf
	kind := d.below(4)
	var l []uint64
	for len(l) < n {
		x := f.near(d, near)
		if y := all[d.below(len(all))]; kind == 0 && f.isFinite(y) {
			x = y
		}
		if kind == 1 {
			x = uint64(d.below(9)) | d.next()&f.sign
		}
		l = append(l, x)
		if d.below(2) == 0 {
			l = append(l, x^f.sign)
		}
	}
	return shuffledBy(d, l[:n])
}

func shuffledBy(d *dice, xs []uint64) []uint64 {
	l := slices.Clone(xs)
	for i := range l {
		j := i + d.below(len(l)-i)
		l[i], l[j] = l[j], l[i]
	}
	return l
}

func TestSumsOfAnyFloats(t *testing.T) {
	for _, f := range forms {
		all := f.floats()
		d := &dice{82}
		for i := range 120 {
			n := d.below(12)
			if i%10 == 0 {
				n = impl.MaxVector
			}
			xs, ys := f.finites(d, n), f.finites(d, n)
			if i%3 == 0 && n > 0 {
				xs[d.below(n)] = all[d.below(len(all))]
				ys[d.below(n)] = f.corners()[d.below(len(f.corners()))]
			}
			checkSumsOf(t, f, modes[i%6], xs, ys)
		}
	}
}

func TestPromise8RoundedOnce(t *testing.T) {
	for _, f := range forms {
		d := &dice{83}
		seen := map[int64]int{}
		for i := range 150 {
			n := 1 + d.below(30)
			if i%15 == 0 {
				n = impl.MaxVector
			}
			xs := f.finites(d, n)
			sum := new(big.Int)
			for _, x := range xs {
				sum.Add(sum, f.units(x))
			}
			if sum.Sign() == 0 {
				continue
			}
			for _, mode := range modes {
				want, told := f.rounded(mode, exact{sum, f.unit})
				checkRes(t, "SumOf", f, mode, impl.SumOf(f.fm, mode, xs), impl.Res{Bits: want, Flags: told})
				seen[told]++
			}
		}
		if seen[0] < 20 || seen[impl.FlInexact] < 20 {
			t.Errorf("%d: the sums are too much alike: %v", f.fm, seen)
		}
	}
}

// inOrder is the vector with its places exchanged.
func inOrder(xs []uint64, places []uint64) []uint64 {
	var l []uint64
	for _, i := range places {
		l = append(l, xs[i])
	}
	return l
}

func TestPromise8InWhateverOrder(t *testing.T) {
	for _, f := range forms {
		all := f.floats()
		d := &dice{84}
		for i := range 40 {
			n := 1 + d.below(40)
			if i%10 == 0 {
				n = impl.MaxVector
			}
			xs, ys := f.finites(d, n), f.finites(d, n)
			switch i % 4 {
			case 1:
				xs[d.below(n)] = all[d.below(len(all))]
			case 2:
				xs, ys = filled(n, f.sign), filled(n, f.one())
			}
			mode := modes[d.below(6)]
			sum, dot := impl.SumOf(f.fm, mode, xs), impl.Dot(f.fm, mode, xs, ys)
			var places []uint64
			for j := range n {
				places = append(places, uint64(j))
			}
			for range 4 {
				places = shuffledBy(d, places)
				a, b := inOrder(xs, places), inOrder(ys, places)
				checkRes(t, "SumOf in another order", f, mode, impl.SumOf(f.fm, mode, a), sum)
				checkRes(t, "Dot in another order", f, mode, impl.Dot(f.fm, mode, a, b), dot)
				checkRes(t, "Dot turned", f, mode, impl.Dot(f.fm, mode, b, a), dot)
			}
			slices.Sort(xs)
			checkRes(t, "SumOf of what is sorted", f, mode, impl.SumOf(f.fm, mode, xs), sum)
		}
	}
}

// Sums that a step of rounding on the way would spoil.
func TestSumsLoseNothing(t *testing.T) {
	for _, f := range forms {
		var xs []uint64
		for range impl.MaxVector/2 - 1 {
			xs = append(xs, f.greatest)
		}
		for range impl.MaxVector/2 - 1 {
			xs = append(xs, f.sign|f.greatest)
		}
		xs = append(xs, 1, 1)
		for _, mode := range modes {
			checkRes(t, "SumOf", f, mode, impl.SumOf(f.fm, mode, xs), impl.Res{Bits: 2})
			ys := filled(len(xs), f.greatest)
			ys[len(ys)-1], ys[len(ys)-2] = f.one(), f.one()
			checkRes(t, "Dot", f, mode, impl.Dot(f.fm, mode, xs, ys), impl.Res{Bits: 2})
		}
		// The least product of all, below halfway between two floats, and above.
		step := f.scaled(1, -int64(f.precision))
		for _, r := range []struct {
			sign uint64
			want uint64
		}{{0, f.one() + 1}, {f.sign, f.one()}} {
			got := impl.Dot(f.fm, impl.RmEven, []uint64{f.one(), step, 1}, []uint64{f.one(), f.one(), r.sign | 1})
			checkRes(t, "Dot", f, impl.RmEven, got, impl.Res{Bits: r.want, Flags: impl.FlInexact})
		}
	}
}

func TestVectorsStayAsTheyWere(t *testing.T) {
	for _, f := range forms {
		d := &dice{85}
		for _, n := range []int{0, 1, 7, impl.MaxVector, impl.MaxVector + 1} {
			room := append(f.finites(d, n), filled(50, spareMark)...)
			others := append(f.finites(d, n), filled(50, spareMark)...)
			was, were := slices.Clone(room), slices.Clone(others)
			xs, ys := room[:n], others[:n]
			for _, mode := range []int64{impl.RmEven, impl.RmDown, 6} {
				impl.VectorOk(f.fm, xs)
				for _, s := range oneVector {
					if s.sum(f.fm, mode, xs) != s.sum(f.fm, mode, xs) {
						t.Errorf("%s is another one the second time", s.name)
					}
				}
				if impl.Dot(f.fm, mode, xs, ys) != impl.Dot(f.fm, mode, xs, ys) {
					t.Error("Dot is another one the second time")
				}
			}
			if !slices.Equal(room, was) || !slices.Equal(others, were) {
				t.Errorf("%d: something was written into a vector of %d", f.fm, n)
			}
		}
	}
}
