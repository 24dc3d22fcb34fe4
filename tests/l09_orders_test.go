package tests

import (
	"math"
	"math/big"
	"slices"
	"testing"

	"loop.example/g00672/impl"
)

// steps reckons apart from the program, and keeps all flags.
type steps struct {
	f     form
	mode  int64
	flags int64
}

func (s *steps) add(a uint64, b uint64) uint64 {
	x, flags := s.f.added(s.mode, a, b)
	s.flags |= flags
	return x
}

func (s *steps) sub(a uint64, b uint64) uint64 { return s.add(a, b^s.f.sign) }

func (s *steps) pairs(xs []uint64) uint64 {
	switch len(xs) {
	case 0:
		return 0
	case 1:
		return xs[0]
	}
	half := len(xs) / 2
	return s.add(s.pairs(xs[:half]), s.pairs(xs[half:]))
}

// placeOf is what is left of n by m, with m added until it is not below 0.
func placeOf(n int64, m int64) int {
	left := new(big.Int).Mod(big.NewInt(n), big.NewInt(m))
	return int(left.Int64())
}

func (s *steps) picked(xs []uint64, picks []int64) uint64 {
	if len(xs) == 0 {
		return 0
	}
	for i := 0; len(xs) > 1; i++ {
		p := 0
		if i < len(picks) {
			p = placeOf(picks[i], int64(len(xs)-1))
		}
		xs = slices.Concat(xs[:p], []uint64{s.add(xs[p], xs[p+1])}, xs[p+2:])
	}
	return xs[0]
}

func (f form) seq(mode int64, xs []uint64) impl.Res {
	s := &steps{f: f, mode: mode}
	x := s.pairs(nil)
	for i := range xs {
		x = s.add(x, xs[i])
	}
	return impl.Res{Bits: x, Flags: s.flags}
}

func (f form) paired(mode int64, xs []uint64) impl.Res {
	s := &steps{f: f, mode: mode}
	x := s.pairs(xs)
	return impl.Res{Bits: x, Flags: s.flags}
}

func (f form) ordered(mode int64, xs []uint64, picks []int64) impl.Res {
	s := &steps{f: f, mode: mode}
	x := s.picked(xs, picks)
	return impl.Res{Bits: x, Flags: s.flags}
}

func (f form) kahan(xs []uint64) impl.Res {
	r := &steps{f: f}
	var s, c uint64
	for _, x := range xs {
		y := r.sub(x, c)
		t := r.add(s, y)
		c = r.sub(r.sub(t, s), y)
		s = t
	}
	return impl.Res{Bits: s, Flags: r.flags}
}

func (f form) doubled(xs []uint64) impl.Res {
	r := &steps{f: f}
	var s, t uint64
	for _, x := range xs {
		p, flags := f.augAdded(s, x)
		r.flags |= flags
		s, t = p.Head, r.add(t, p.Tail)
	}
	x := r.add(s, t)
	return impl.Res{Bits: x, Flags: r.flags}
}

// stepSums: all that are rounded at each step by a mode that is told.
var stepSums = []struct {
	name string
	sum  vectorSum
}{
	{"SeqSum", impl.SeqSum},
	{"PairSum", impl.PairSum},
	{"OrderedSum without picks", func(fm int64, mode int64, xs []uint64) impl.Res { return impl.OrderedSum(fm, mode, xs, nil) }},
	{"OrderedSum", func(fm int64, mode int64, xs []uint64) impl.Res {
		return impl.OrderedSum(fm, mode, xs, []int64{5, -7, 1})
	}},
}

// evenSums: those that know but one mode.
var evenSums = []struct {
	name string
	sum  func(fm int64, xs []uint64) impl.Res
}{
	{"KahanSum", impl.KahanSum},
	{"DoubledSum", impl.DoubledSum},
}

func checkStepped(t *testing.T, what string, f form, mode int64, xs []uint64, got impl.Res, want impl.Res) {
	t.Helper()
	if got != want {
		t.Errorf("%s %d mode %d of %d %x: %x, want %x", what, f.fm, mode, len(xs), xs[:min(3, len(xs))], got, want)
	}
}

// checkOrders holds each sum of the vector against the same steps.
func checkOrders(t *testing.T, f form, mode int64, xs []uint64, picks []int64) {
	t.Helper()
	checkStepped(t, "SeqSum", f, mode, xs, impl.SeqSum(f.fm, mode, xs), f.seq(mode, xs))
	checkStepped(t, "PairSum", f, mode, xs, impl.PairSum(f.fm, mode, xs), f.paired(mode, xs))
	checkStepped(t, "OrderedSum", f, mode, xs, impl.OrderedSum(f.fm, mode, xs, picks), f.ordered(mode, xs, picks))
}

func checkKept(t *testing.T, f form, xs []uint64) {
	t.Helper()
	checkStepped(t, "KahanSum", f, impl.RmEven, xs, impl.KahanSum(f.fm, xs), f.kahan(xs))
	checkStepped(t, "DoubledSum", f, impl.RmEven, xs, impl.DoubledSum(f.fm, xs), f.doubled(xs))
}

// anyPicks: so many picks, small, great and below 0.
func anyPicks(d *dice, n int) []int64 {
	var l []int64
	for range n {
		p := int64(d.next())
		if d.below(2) == 0 {
			p = int64(d.below(700) - 350)
		}
		l = append(l, p)
	}
	return l
}

func TestOrdersOfNone(t *testing.T) {
	for _, f := range forms {
		for _, xs := range [][]uint64{nil, {}} {
			for _, mode := range modes {
				for _, s := range stepSums {
					checkStepped(t, s.name, f, mode, xs, s.sum(f.fm, mode, xs), impl.Res{})
				}
			}
			for _, s := range evenSums {
				checkStepped(t, s.name, f, impl.RmEven, xs, s.sum(f.fm, xs), impl.Res{})
			}
		}
	}
}

// One float stays what it is in pairs and by picks, as nothing is added; in order it is added to zero.
func TestOrdersOfOne(t *testing.T) {
	for _, f := range forms {
		for _, x := range f.corners() {
			xs := []uint64{x}
			for _, mode := range modes {
				checkStepped(t, "PairSum", f, mode, xs, impl.PairSum(f.fm, mode, xs), impl.Res{Bits: x})
				for _, picks := range [][]int64{nil, {0}, {-1, 5}, {math.MinInt64}} {
					checkStepped(t, "OrderedSum", f, mode, xs, impl.OrderedSum(f.fm, mode, xs, picks), impl.Res{Bits: x})
				}
				want := impl.Res{Bits: x}
				is, flags := f.nanOf(x)
				switch {
				case is:
					want = impl.Res{Bits: f.nan, Flags: flags}
				case f.isZero(x) && mode != impl.RmDown:
					want.Bits = 0
				}
				checkStepped(t, "SeqSum", f, mode, xs, impl.SeqSum(f.fm, mode, xs), want)
				checkOrders(t, f, mode, xs, nil)
			}
			checkKept(t, f, xs)
		}
	}
}

func TestOrdersOfTwoAndThreeCorners(t *testing.T) {
	for _, f := range forms {
		l := f.corners()
		d := &dice{91}
		for _, a := range l {
			for _, b := range l {
				c := l[d.below(len(l))]
				for _, mode := range modes {
					checkOrders(t, f, mode, []uint64{a, b}, anyPicks(d, d.below(3)))
				}
				checkKept(t, f, []uint64{a, b})
				checkOrders(t, f, modes[d.below(6)], []uint64{a, b, c}, anyPicks(d, d.below(4)))
				checkKept(t, f, []uint64{a, b, c})
			}
		}
	}
}

func TestOrdersOfAny(t *testing.T) {
	for _, f := range forms {
		all, corners := f.floats(), f.corners()
		d := &dice{92}
		for i := range 240 {
			n := d.below(20)
			if i%20 == 0 {
				n = impl.MaxVector - i/20%2
			}
			xs := f.finites(d, n)
			if i%3 == 0 && n > 0 {
				xs[d.below(n)] = corners[d.below(len(corners))]
				xs[d.below(n)] = all[d.below(len(all))]
			}
			checkOrders(t, f, modes[i%6], xs, anyPicks(d, d.below(n+3)))
			checkKept(t, f, xs)
		}
	}
}

// The machine's own floats, rounded at each step to the nearest even one.
func TestOrdersAsTheMachineHasThem(t *testing.T) {
	d := &dice{93}
	f := forms[1]
	for range 300 {
		xs := f.finites(d, 1+d.below(40))
		var seq, sum, over float64
		for _, x := range xs {
			v := math.Float64frombits(x)
			seq += v
			y := v - over
			next := sum + y
			over = next - sum - y
			sum = next
		}
		if seq == seq && impl.SeqSum(64, impl.RmEven, xs).Bits != math.Float64bits(seq) {
			t.Errorf("SeqSum of %x is %x", xs, math.Float64bits(seq))
		}
		if sum == sum && impl.KahanSum(64, xs).Bits != math.Float64bits(sum) {
			t.Errorf("KahanSum of %x is %x", xs, math.Float64bits(sum))
		}
	}
}

func TestOrdersByTable(t *testing.T) {
	for _, f := range forms {
		one, minus := f.one(), f.sign
		wide := f.scaled(1, int64(f.precision)) // the next float up is 2 more
		xs := []uint64{wide, one, one}
		for mode, seq := range [6]uint64{wide, wide, wide + 2, wide, wide + 2, wide} {
			checkStepped(t, "SeqSum", f, int64(mode), xs, impl.SeqSum(f.fm, int64(mode), xs), impl.Res{Bits: seq, Flags: 1})
			checkStepped(t, "PairSum", f, int64(mode), xs, impl.PairSum(f.fm, int64(mode), xs), impl.Res{Bits: wide + 1})
		}
		for _, r := range []struct {
			name string
			got  impl.Res
			want impl.Res
		}{
			{"a flag of a step on the way", impl.SeqSum(f.fm, 0, []uint64{wide, one, minus | wide}), impl.Res{Flags: 1}},
			{"beyond and back, in order", impl.SeqSum(f.fm, impl.RmZero, []uint64{f.greatest, f.greatest, minus | f.greatest}), impl.Res{Flags: 5}},
			{"beyond and back, even", impl.SeqSum(f.fm, 0, []uint64{f.greatest, f.greatest, minus | f.greatest}), impl.Res{Bits: f.inf, Flags: 5}},
			{"beyond on both sides", impl.PairSum(f.fm, 0, []uint64{f.greatest, f.greatest, minus | f.greatest, minus | f.greatest}), impl.Res{Bits: f.nan, Flags: 13}},
			{"not beyond, by picks", impl.OrderedSum(f.fm, 0, []uint64{f.greatest, f.greatest, minus | f.greatest}, []int64{1}), impl.Res{Bits: f.greatest}},
			{"all zeros below 0, in order", impl.SeqSum(f.fm, 0, filled(3, minus)), impl.Res{}},
			{"all zeros below 0, in order, down", impl.SeqSum(f.fm, impl.RmDown, filled(3, minus)), impl.Res{Bits: minus}},
			{"all zeros below 0, in pairs", impl.PairSum(f.fm, 0, filled(3, minus)), impl.Res{Bits: minus}},
			{"all zeros below 0, by picks", impl.OrderedSum(f.fm, 0, filled(3, minus), []int64{1}), impl.Res{Bits: minus}},
			{"one and its opposite, down", impl.PairSum(f.fm, impl.RmDown, []uint64{one, minus | one}), impl.Res{Bits: minus}},
			{"a quiet NaN", impl.SeqSum(f.fm, 0, []uint64{one, minus | f.all, one}), impl.Res{Bits: f.nan}},
			{"a signalling NaN", impl.PairSum(f.fm, 0, []uint64{one, one, f.inf + 1}), impl.Res{Bits: f.nan, Flags: 8}},
			{"a signalling NaN, alone", impl.PairSum(f.fm, 0, []uint64{f.inf + 1}), impl.Res{Bits: f.inf + 1}},
			{"infinities that are unlike", impl.OrderedSum(f.fm, 0, []uint64{f.inf, one, minus | f.inf}, nil), impl.Res{Bits: f.nan, Flags: 8}},
			{"infinity", impl.SeqSum(f.fm, 0, []uint64{one, minus | f.inf, f.greatest}), impl.Res{Bits: minus | f.inf}},
			{"as many as may be", impl.PairSum(f.fm, 0, filled(impl.MaxVector, one)), impl.Res{Bits: f.scaled(impl.MaxVector, 0)}},
			{"in threes: the first half is the shorter one", impl.PairSum(f.fm, 0, []uint64{one, one, wide}), impl.Res{Bits: wide, Flags: 1}},
		} {
			if r.got != r.want {
				t.Errorf("%d, %s: %x, want %x", f.fm, r.name, r.got, r.want)
			}
		}
	}
}

func TestKeptSumsByTable(t *testing.T) {
	for _, f := range forms {
		one, minus := f.one(), f.sign
		wide := f.scaled(1, int64(f.precision))
		far := f.scaled(1, 2*int64(f.precision)+2)
		for _, r := range []struct {
			name           string
			xs             []uint64
			kahan, doubled impl.Res
		}{
			{"what rounding lost", []uint64{wide, one, one}, impl.Res{Bits: wide + 1, Flags: 1}, impl.Res{Bits: wide + 1}},
			{"nothing lost", []uint64{one, one, one}, impl.Res{Bits: f.scaled(3, 0)}, impl.Res{Bits: f.scaled(3, 0)}},
			{"a zero below 0", []uint64{minus}, impl.Res{}, impl.Res{}},
			{"zeros below 0", filled(4, minus), impl.Res{}, impl.Res{}},
			{"a greater one behind", []uint64{one, far, minus | far}, impl.Res{Flags: 1}, impl.Res{Bits: one}},
			{"what does not fit in the end", []uint64{far, one}, impl.Res{Bits: far, Flags: 1}, impl.Res{Bits: far, Flags: 1}},
			{"infinity", []uint64{f.inf}, impl.Res{Bits: f.inf, Flags: 8}, impl.Res{Bits: f.inf}},
			{"infinity below 0", []uint64{minus | f.inf}, impl.Res{Bits: minus | f.inf, Flags: 8}, impl.Res{Bits: minus | f.inf}},
			{"one behind infinity", []uint64{f.inf, one}, impl.Res{Bits: f.nan, Flags: 8}, impl.Res{Bits: f.inf}},
			{"infinities that are unlike", []uint64{f.inf, minus | f.inf}, impl.Res{Bits: f.nan, Flags: 8}, impl.Res{Bits: f.nan, Flags: 8}},
			{"a quiet NaN", []uint64{one, f.nan}, impl.Res{Bits: f.nan}, impl.Res{Bits: f.nan}},
			{"a signalling NaN", []uint64{f.inf + 1, one}, impl.Res{Bits: f.nan, Flags: 8}, impl.Res{Bits: f.nan, Flags: 8}},
			{"beyond the greatest", []uint64{f.greatest, f.greatest}, impl.Res{Bits: f.inf, Flags: 5}, impl.Res{Bits: f.inf, Flags: 5}},
			{"one behind what is beyond", []uint64{f.greatest, f.greatest, one}, impl.Res{Bits: f.nan, Flags: 13}, impl.Res{Bits: f.inf, Flags: 5}},
			{"the least ones", filled(impl.MaxVector, minus|1), impl.Res{Bits: minus | impl.MaxVector}, impl.Res{Bits: minus | impl.MaxVector}},
		} {
			checkStepped(t, "KahanSum, "+r.name, f, 0, r.xs, impl.KahanSum(f.fm, r.xs), r.kahan)
			checkStepped(t, "DoubledSum, "+r.name, f, 0, r.xs, impl.DoubledSum(f.fm, r.xs), r.doubled)
		}
	}
}

// A head is rounded towards 0 where two are alike, the rest to the even one.
func TestDoubledSumHasTwoModes(t *testing.T) {
	for _, f := range forms {
		wide := f.scaled(1, int64(f.precision))
		for _, xs := range [][]uint64{
			{wide + 1, f.one()},
			{wide + 1, f.one(), f.scaled(1, -60)},
			{wide, f.one(), f.one(), wide + 3},
			{f.sign | (wide + 1), f.sign | f.one()},
			{f.scaled(3, 100), f.scaled(1, 100-int64(f.precision)), f.scaled(3, 98-int64(f.precision)), f.scaled(1, 50-int64(f.precision))},
		} {
			checkKept(t, f, xs)
		}
		want := impl.Res{Bits: wide + 2, Flags: 1}
		xs := []uint64{wide + 1, f.one()}
		checkStepped(t, "DoubledSum", f, 0, xs, impl.DoubledSum(f.fm, xs), want)
	}
}

func TestPicksByTable(t *testing.T) {
	const most, least = math.MaxInt64, math.MinInt64
	for _, f := range forms {
		one := f.one()
		wide := f.scaled(1, int64(f.precision))
		low, high, higher := impl.Res{Bits: wide, Flags: 1}, impl.Res{Bits: wide + 1}, impl.Res{Bits: wide + 2, Flags: 1}
		three, four := []uint64{wide, one, one}, []uint64{wide, one, one, one}
		for _, r := range []struct {
			xs    []uint64
			picks []int64
			want  impl.Res
		}{
			{three, nil, low},
			{three, []int64{}, low},
			{three, []int64{0}, low},
			{three, []int64{1}, high},
			{three, []int64{2}, low},
			{three, []int64{3}, high},
			{three, []int64{-1}, high},
			{three, []int64{-2}, low},
			{three, []int64{-3}, high},
			{three, []int64{most}, high},
			{three, []int64{least}, low},
			{three, []int64{least + 1}, high},
			{three, []int64{1, 1, 1, 1, 1}, high},
			{three, []int64{0, 1}, low},
			{three, []int64{1, least, most}, high},
			{four, nil, low},
			{four, []int64{1}, higher},
			{four, []int64{1, 1}, higher},
			{four, []int64{2, 0}, impl.Res{Bits: wide + 1, Flags: 1}},
			{four, []int64{2, 1}, higher},
			{four, []int64{-1, -1}, higher},
			{four, []int64{-2, -1}, higher},
			{four, []int64{5, 2}, impl.Res{Bits: wide + 1, Flags: 1}},
			{four, []int64{0, 1}, impl.Res{Bits: wide + 1, Flags: 1}},
			{four, []int64{3, 3, 3, 3}, impl.Res{Bits: wide + 1, Flags: 1}},
		} {
			checkStepped(t, "OrderedSum", f, 0, r.xs, impl.OrderedSum(f.fm, 0, r.xs, r.picks), r.want)
			if want := f.ordered(0, r.xs, r.picks); want != r.want {
				t.Errorf("%d: %v is reckoned as %x, want %x", f.fm, r.picks, want, r.want)
			}
		}
	}
}

func TestPicksOfAnyNumber(t *testing.T) {
	for _, f := range forms {
		d := &dice{94}
		for _, n := range []int{2, 3, 4, 9, impl.MaxVector} {
			// All of one size, so that each pick tells in the sum.
			xs := f.finites(d, n)
			for i := range xs {
				xs[i] = f.one() + xs[i]&(1<<(f.precision-1)-1)
			}
			for _, many := range []int{0, 1, n - 2, n - 1, n, 3 * n, 20000} {
				picks := anyPicks(d, many)
				for _, mode := range []int64{impl.RmEven, impl.RmUp, modes[d.below(6)]} {
					got := impl.OrderedSum(f.fm, mode, xs, picks)
					checkStepped(t, "OrderedSum", f, mode, xs, got, f.ordered(mode, xs, picks))
					// Those that are not needed say nothing.
					needed := picks[:min(len(picks), n-1)]
					checkStepped(t, "OrderedSum of less picks", f, mode, xs, impl.OrderedSum(f.fm, mode, xs, needed), got)
				}
			}
		}
	}
}

// The same steps, asked for in two ways.
func TestPicksThatAreOtherOrders(t *testing.T) {
	for _, f := range forms {
		d := &dice{95}
		for i := range 60 {
			xs := f.finites(d, 8)
			mode := modes[i%6]
			checkStepped(t, "in pairs, by picks", f, mode, xs, impl.OrderedSum(f.fm, mode, xs, []int64{0, 1, 2, 3, 0, 1}), impl.PairSum(f.fm, mode, xs))
			first := append([]uint64{0}, xs...)
			checkStepped(t, "in order, by picks", f, mode, xs, impl.OrderedSum(f.fm, mode, first, nil), impl.SeqSum(f.fm, mode, xs))
		}
	}
}

// Each refusal, where all that come behind it would hold, too.
func TestFirstReasonOfNoOrder(t *testing.T) {
	const no = 1 << 32 // no float of format 32
	few, many, wrong := filled(2, 0), filled(impl.MaxVector+1, no), []uint64{0, no}
	for _, r := range []struct {
		fm, mode int64
		xs       []uint64
		want     int64
	}{
		{33, 0, nil, impl.ReForm}, {0, 0, few, impl.ReForm}, {33, 0, many, impl.ReForm}, {33, 0, wrong, impl.ReForm},
		{32, 6, nil, impl.ReForm}, {32, -1, few, impl.ReForm}, {32, 6, many, impl.ReForm}, {64, 6, many, impl.ReForm}, {32, 6, wrong, impl.ReForm}, {33, 6, many, impl.ReForm},
		{32, 0, many, impl.ReMany}, {64, 5, many, impl.ReMany}, {32, 0, filled(impl.MaxVector+1, 0), impl.ReMany}, {64, 0, filled(100000, 0), impl.ReMany},
		{32, 0, wrong, impl.ReFloat}, {32, 0, []uint64{no}, impl.ReFloat}, {32, 0, []uint64{no, 0}, impl.ReFloat}, {32, 0, filled(impl.MaxVector, no), impl.ReFloat},
		{32, 0, []uint64{0x7fc00000, 0x7f800001, no}, impl.ReFloat}, {32, 0, []uint64{1 << 63}, impl.ReFloat},
		{32, 0, nil, impl.ReOk}, {64, 0, nil, impl.ReOk}, {32, 0, few, impl.ReOk}, {64, 5, filled(impl.MaxVector, 0), impl.ReOk},
	} {
		for _, s := range stepSums {
			if got := s.sum(r.fm, r.mode, r.xs); got != (impl.Res{Code: r.want}) {
				t.Errorf("%s %d mode %d of %d: %v, want %d", s.name, r.fm, r.mode, len(r.xs), got, r.want)
			}
		}
		if !slices.Contains(modes, r.mode) && r.fm != 33 {
			continue
		}
		for _, s := range evenSums {
			if got := s.sum(r.fm, r.xs); got != (impl.Res{Code: r.want}) {
				t.Errorf("%s %d of %d: %v, want %d", s.name, r.fm, len(r.xs), got, r.want)
			}
		}
	}
}

func TestOrdersOfNoFormatAndNoMode(t *testing.T) {
	l := filled(3, 0x3f800000)
	for _, s := range stepSums {
		for _, fm := range noFormats {
			if got := s.sum(fm, impl.RmEven, l); got != (impl.Res{Code: impl.ReForm}) {
				t.Errorf("%s %d: %v", s.name, fm, got)
			}
		}
		for _, mode := range noModes {
			for _, f := range forms {
				if got := s.sum(f.fm, mode, l); got != (impl.Res{Code: impl.ReForm}) {
					t.Errorf("%s %d mode %d: %v", s.name, f.fm, mode, got)
				}
			}
		}
	}
	for _, s := range evenSums {
		for _, fm := range noFormats {
			if got := s.sum(fm, l); got != (impl.Res{Code: impl.ReForm}) {
				t.Errorf("%s %d: %v", s.name, fm, got)
			}
		}
	}
}

func TestOrdersOfNoFloats(t *testing.T) {
	for _, f := range forms {
		for _, no := range f.notFloats() {
			for _, n := range []int{1, 2, 3, impl.MaxVector} {
				for _, i := range []int{0, n / 2, n - 1} {
					xs := filled(n, f.nan)
					xs[i] = no
					for _, s := range stepSums {
						checkStepped(t, s.name, f, 0, xs, s.sum(f.fm, 0, xs), impl.Res{Code: impl.ReFloat})
					}
					for _, s := range evenSums {
						checkStepped(t, s.name, f, 0, xs, s.sum(f.fm, xs), impl.Res{Code: impl.ReFloat})
					}
				}
			}
		}
	}
}

// exactSum is in units.
func (f form) exactSum(xs []uint64) *big.Int {
	sum := new(big.Int)
	for _, x := range xs {
		sum.Add(sum, f.units(x))
	}
	return sum
}

func TestErrorOf(t *testing.T) {
	for _, f := range forms {
		all := f.floats()
		d := &dice{96}
		for i := range 200 {
			n := d.below(6)
			if i%20 == 0 {
				n = impl.MaxVector
			}
			xs := f.finites(d, n)
			bits := all[d.below(len(all))]
			if i%2 == 0 {
				bits = impl.SeqSum(f.fm, modes[d.below(6)], xs).Bits
			}
			got, ok := impl.ErrorOf(f.fm, xs, bits)
			if !f.isFinite(bits) {
				checkNoError(t, f.fm, xs, bits)
				continue
			}
			checkWide(t, "ErrorOf", got, ok, new(big.Int).Sub(f.exactSum(xs), f.units(bits)))
		}
	}
}

func TestErrorOfByTable(t *testing.T) {
	for _, f := range forms {
		one, minus := f.one(), f.sign
		unit := power(uint(-f.unit))
		far := f.units(f.greatest)
		for _, r := range []struct {
			xs   []uint64
			bits uint64
			want *big.Int
		}{
			{nil, 0, new(big.Int)},
			{nil, minus, new(big.Int)},
			{nil, one, negative(unit)},
			{nil, minus | 1, big.NewInt(1)},
			{[]uint64{minus}, 0, new(big.Int)},
			{[]uint64{one}, one, new(big.Int)},
			{[]uint64{one}, minus | one, new(big.Int).Lsh(unit, 1)},
			{[]uint64{minus | one, 1}, 0, plus(negative(unit), 1)},
			{[]uint64{1, 1, 1}, 2, big.NewInt(1)},
			{filled(impl.MaxVector, f.greatest), minus | f.greatest, new(big.Int).Mul(far, big.NewInt(impl.MaxVector+1))},
			{filled(impl.MaxVector, minus|f.greatest), f.greatest, new(big.Int).Mul(far, big.NewInt(-impl.MaxVector-1))},
		} {
			got, ok := impl.ErrorOf(f.fm, r.xs, r.bits)
			checkWide(t, "ErrorOf", got, ok, r.want)
		}
	}
}

func checkNoError(t *testing.T, fm int64, xs []uint64, bits uint64) {
	t.Helper()
	if w, ok := impl.ErrorOf(fm, xs, bits); ok || !wideIs(w, impl.Wide{}) {
		t.Errorf("ErrorOf %d of %d and %x: %v %v", fm, len(xs), bits, w, ok)
	}
}

func TestErrorOfRefuses(t *testing.T) {
	for _, f := range forms {
		one := f.one()
		no := f.notFloats()
		for _, x := range f.corners() {
			if !f.isFinite(x) {
				no = append(no, x)
			}
		}
		for _, x := range no {
			checkNoError(t, f.fm, nil, x)
			checkNoError(t, f.fm, []uint64{one, one}, x)
			for i := range 3 {
				xs := filled(3, one)
				xs[i] = x
				checkNoError(t, f.fm, xs, one)
				checkNoError(t, f.fm, xs, x)
			}
			xs := filled(impl.MaxVector, 0)
			xs[impl.MaxVector-1] = x
			checkNoError(t, f.fm, xs, 0)
		}
		for _, n := range []int{impl.MaxVector + 1, 2 * impl.MaxVector, 100000} {
			checkNoError(t, f.fm, filled(n, 0), 0)
		}
		for _, fm := range noFormats {
			checkNoError(t, fm, nil, 0)
			checkNoError(t, fm, filled(2, one), one)
		}
	}
}

// manySums: what each order makes of a vector, by the modes that it has.
func manySums(d *dice, f form, xs []uint64, modes []int64) []impl.Res {
	var l []impl.Res
	for _, mode := range modes {
		for _, s := range stepSums {
			l = append(l, s.sum(f.fm, mode, xs))
		}
		l = append(l, impl.OrderedSum(f.fm, mode, xs, anyPicks(d, len(xs))))
	}
	for _, s := range evenSums {
		l = append(l, s.sum(f.fm, xs))
	}
	return l
}

// few: floats with so few bits that their sums are often exact.
func (f form) few(d *dice, n int) []uint64 {
	var l []uint64
	e := int64(d.below(40)) - 20
	for range n {
		l = append(l, f.scaled(int64(d.below(1<<(f.precision-9)))-1<<(f.precision-10), e+int64(d.below(6))))
	}
	return l
}

func TestPromise9NoFlagIsExact(t *testing.T) {
	for _, f := range forms {
		d := &dice{97}
		told, exact := 0, 0
		for i := range 150 {
			n := 1 + d.below(12)
			if i%25 == 0 {
				n = impl.MaxVector
			}
			xs := f.finites(d, n)
			if i%2 == 0 {
				xs = f.few(d, n)
			}
			want := f.exactSum(xs)
			for _, r := range manySums(d, f, xs, modes) {
				if r.Flags != 0 {
					told++
					continue
				}
				exact++
				if r.Code != impl.ReOk || !f.isFinite(r.Bits) || f.units(r.Bits).Cmp(want) != 0 {
					t.Errorf("%d: %x tells no flag, %x", f.fm, xs, r)
				}
				if w, ok := impl.ErrorOf(f.fm, xs, r.Bits); !ok || len(w.Limbs) != 0 {
					t.Errorf("%d: %x is wrong by %v", f.fm, r, w)
				}
			}
		}
		if told < 500 || exact < 500 {
			t.Errorf("%d: the sums are too much alike: %d, %d", f.fm, told, exact)
		}
	}
}

func TestPromise9WrongByNoMore(t *testing.T) {
	nearest := []int64{impl.RmEven, impl.RmAway, impl.RmTies}
	for _, f := range forms {
		d := &dice{98}
		wrong := 0
		for i := range 150 {
			n := 1 + d.below(12)
			if i%15 == 0 {
				n = impl.MaxVector
			}
			xs := f.finites(d, n)
			size := new(big.Int)
			for _, x := range xs {
				size.Add(size, new(big.Int).Abs(f.units(x)))
			}
			bound := size.Mul(size, big.NewInt(int64(2*n)))
			for _, r := range manySums(d, f, xs, nearest) {
				if r.Flags&impl.FlOverflow != 0 {
					continue
				}
				w, ok := impl.ErrorOf(f.fm, xs, r.Bits)
				off := new(big.Int).Abs(bigOf(w))
				if off.Sign() != 0 {
					wrong++
				}
				if !ok || off.Lsh(off, f.precision).Cmp(bound) > 0 {
					t.Errorf("%d: %x of %d is wrong by too much", f.fm, r, n)
				}
			}
		}
		if wrong < 300 {
			t.Errorf("%d: only %d are wrong", f.fm, wrong)
		}
	}
}

func TestOrdersLeaveAllAsItWas(t *testing.T) {
	for _, f := range forms {
		d := &dice{99}
		for _, n := range []int{0, 1, 2, 7, impl.MaxVector, impl.MaxVector + 1} {
			room := append(f.finites(d, n), filled(50, spareMark)...)
			places := append(anyPicks(d, n), 77, 77, 77)
			was, were := slices.Clone(room), slices.Clone(places)
			xs, picks := room[:n], places[:n]
			for _, mode := range []int64{impl.RmEven, impl.RmDown, 6} {
				if impl.OrderedSum(f.fm, mode, xs, picks) != impl.OrderedSum(f.fm, mode, xs, picks) {
					t.Error("OrderedSum is another one the second time")
				}
				for _, s := range stepSums {
					if s.sum(f.fm, mode, xs) != s.sum(f.fm, mode, xs) {
						t.Errorf("%s is another one the second time", s.name)
					}
				}
			}
			for _, s := range evenSums {
				if s.sum(f.fm, xs) != s.sum(f.fm, xs) {
					t.Errorf("%s is another one the second time", s.name)
				}
			}
			a, _ := impl.ErrorOf(f.fm, xs, f.one())
			b, _ := impl.ErrorOf(f.fm, xs, f.one())
			kept := impl.Wide{Neg: b.Neg, Limbs: slices.Clone(b.Limbs)}
			scribble(a)
			if !wideIs(b, kept) {
				t.Error("two answers of ErrorOf share memory")
			}
			if !slices.Equal(room, was) || !slices.Equal(places, were) {
				t.Errorf("%d: something was written into a vector of %d, or into the picks", f.fm, n)
			}
		}
	}
}
