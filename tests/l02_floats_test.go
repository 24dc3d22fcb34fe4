package tests

import (
	"cmp"
	"math"
	"math/big"
	"testing"

	"loop.example/g00672/impl"
)

func TestFloatOk(t *testing.T) {
	for _, f := range forms {
		for _, x := range append(f.floats(), f.all) {
			if !impl.FloatOk(f.fm, x) {
				t.Errorf("%d %x", f.fm, x)
			}
		}
		for _, x := range f.notFloats() {
			if impl.FloatOk(f.fm, x) {
				t.Errorf("%d %x", f.fm, x)
			}
		}
	}
	for _, fm := range noFormats {
		if impl.FloatOk(fm, 0) || impl.FloatOk(fm, 1) {
			t.Error(fm)
		}
	}
}

func (f form) class(bits uint64) int64 {
	size := bits &^ f.sign
	switch {
	case size == 0:
		return impl.ClZero
	case size < 1<<(f.precision-1):
		return impl.ClSub
	case size < f.inf:
		return impl.ClNormal
	case size == f.inf:
		return impl.ClInf
	case size >= f.nan:
		return impl.ClQuiet
	}
	return impl.ClSignal
}

func TestClassOf(t *testing.T) {
	seen := map[int64]int{}
	for _, f := range forms {
		for _, x := range f.floats() {
			c := impl.ClassOf(f.fm, x)
			seen[c]++
			if c != f.class(x) {
				t.Errorf("%d %x: %d", f.fm, x, c)
			}
		}
	}
	if len(seen) != 6 {
		t.Error("not each class was seen", seen)
	}
}

func bigFloat(m int64, e int64) *big.Float {
	return new(big.Float).SetMantExp(new(big.Float).SetPrec(64).SetInt64(m), int(e))
}

func TestPartsOf(t *testing.T) {
	for _, f := range forms {
		for _, x := range f.floats() {
			p, ok := impl.PartsOf(f.fm, x)
			if !f.isFinite(x) {
				if ok || p != (impl.Parts{}) {
					t.Errorf("%d %x is not finite: %v", f.fm, x, p)
				}
				continue
			}
			value := bigFloat(p.M, p.E)
			if v, _ := value.Float64(); !ok || v != math.Abs(f.value(x)) || p.Neg != (x&f.sign != 0) {
				t.Errorf("%d %x: %v", f.fm, x, p)
			}
			normal := p.M >= 1<<(f.precision-1) && p.E >= f.unit
			if p.M < 0 || p.M >= 1<<f.precision || !normal && p.E != f.unit {
				t.Errorf("%d %x: not the M and E of the format: %v", f.fm, x, p)
			}
		}
	}
}

func TestPartsOfZeros(t *testing.T) {
	for _, f := range forms {
		for _, neg := range []bool{false, true} {
			if p, ok := impl.PartsOf(f.fm, impl.ZeroOf(f.fm, neg)); !ok || p != (impl.Parts{Neg: neg, E: f.unit}) {
				t.Error(f.fm, p, ok)
			}
			if x, ok := impl.FromParts(f.fm, impl.Parts{Neg: neg, E: f.unit}); !ok || x != impl.ZeroOf(f.fm, neg) {
				t.Error(f.fm, x, ok)
			}
		}
	}
}

// fromParts is what FromParts must answer, by way of Go's own floats.
func (f form) fromParts(p impl.Parts) (uint64, bool) {
	if p.M < 0 || p.E < -5000 || p.E > 5000 {
		return 0, false
	}
	var bits uint64
	if p.M > 0 {
		v, how := bigFloat(p.M, p.E).Float64()
		if f.fm == 32 {
			var narrow float32
			narrow, how = bigFloat(p.M, p.E).Float32()
			bits = uint64(math.Float32bits(narrow))
		} else {
			bits = math.Float64bits(v)
		}
		if how != big.Exact {
			return 0, false
		}
	}
	if p.Neg {
		bits |= f.sign
	}
	return bits, true
}

func TestFromParts(t *testing.T) {
	var es []int64
	for e := int64(-1200); e <= 1100; e += 1 {
		es = append(es, e)
	}
	es = append(es, -5000, -4999, 4999, 5000, -5001, 5001, math.MinInt64, math.MaxInt64, 1<<32, -1<<32)
	ms := []int64{0, 1, 2, 3, 5, 1<<23 - 1, 1 << 23, 1<<23 + 1, 1<<24 - 1, 1 << 24, 1<<24 + 1, 1<<24 + 2, 1<<25 - 2, 1<<52 - 1, 1 << 52, 1<<53 - 1, 1 << 53, 1<<53 + 1, 1<<53 + 2, 1<<54 - 2, 1 << 62, 1<<62 + 1<<10, 1<<62 + 1<<9, 1<<62 + 1<<39, 1<<62 + 1<<38, math.MaxInt64, math.MaxInt64 - 1023, math.MaxInt64 - 511, -1, -2, math.MinInt64}
	for _, f := range forms {
		for _, e := range es {
			for _, m := range ms {
				for _, neg := range []bool{false, true} {
					p := impl.Parts{Neg: neg, M: m, E: e}
					x, ok := impl.FromParts(f.fm, p)
					if want, is := f.fromParts(p); x != want || ok != is {
						t.Errorf("%d %v: %x %v, want %x %v", f.fm, p, x, ok, want, is)
					}
				}
			}
		}
	}
}

func TestFromPartsAtTheLimits(t *testing.T) {
	for _, f := range forms {
		for _, r := range []struct {
			m, e int64
			want uint64
			ok   bool
		}{
			{0, 5000, 0, true}, {0, 5001, 0, false}, {0, -5000, 0, true}, {0, -5001, 0, false},
			{1, 5000, 0, false}, {1, -5000, 0, false}, {-1, 0, 0, false}, {math.MinInt64, 0, 0, false},
			{1, f.unit, 1, true}, {1, f.unit - 1, 0, false}, {1 << 62, f.unit - 62, 1, true}, {1 << 62, f.unit - 63, 0, false},
			{1<<f.precision - 1, f.greatestE, f.greatest, true}, {1<<f.precision - 2, f.greatestE, f.greatest - 1, true},
			{1 << f.precision, f.greatestE, 0, false}, {1<<f.precision - 1, f.greatestE + 1, 0, false},
			{1, f.greatestE + int64(f.precision), 0, false}, {1, f.greatestE + int64(f.precision) - 1, f.inf - 1<<(f.precision-1), true},
			{1<<f.precision + 1, 0, 0, false},
		} {
			if x, ok := impl.FromParts(f.fm, impl.Parts{M: r.m, E: r.e}); x != r.want || ok != r.ok {
				t.Errorf("%d %v: %x %v", f.fm, r, x, ok)
			}
			want := r.want
			if r.ok {
				want |= f.sign
			}
			if x, ok := impl.FromParts(f.fm, impl.Parts{Neg: true, M: r.m, E: r.e}); x != want || ok != r.ok {
				t.Errorf("%d -%v: %x %v", f.fm, r, x, ok)
			}
		}
	}
}

func TestOrderOf(t *testing.T) {
	for _, f := range forms {
		for _, x := range append(f.floats(), f.all) {
			want := int64(x &^ f.sign)
			if x&f.sign != 0 {
				want = -1 - want
			}
			if n, ok := impl.OrderOf(f.fm, x); !ok || n != want {
				t.Errorf("%d %x: %d", f.fm, x, n)
			}
		}
	}
	if n, ok := impl.OrderOf(64, math.MaxUint64); !ok || n != math.MinInt64 {
		t.Error(n)
	}
	if n, ok := impl.OrderOf(32, 0xffffffff); !ok || n != math.MinInt32 {
		t.Error(n)
	}
}

func TestCompareFloats(t *testing.T) {
	for _, f := range forms {
		l := f.floats()
		d := &dice{4}
		for _, a := range l {
			for _, b := range []uint64{a, a ^ f.sign, l[d.below(len(l))], l[d.below(len(l))], l[d.below(20)], l[d.below(20)] | f.sign} {
				want := int64(2)
				if !f.isNaN(a) && !f.isNaN(b) {
					want = int64(cmp.Compare(f.value(a), f.value(b)))
				}
				if c := impl.CompareFloats(f.fm, a, b); c != want {
					t.Errorf("%d %x %x: %d", f.fm, a, b, c)
				}
			}
		}
	}
}

func (f form) up(bits uint64) uint64 {
	if f.fm == 32 {
		x := math.Float32frombits(uint32(bits))
		return uint64(math.Float32bits(math.Nextafter32(x, float32(math.Inf(1)))))
	}
	return math.Float64bits(math.Nextafter(math.Float64frombits(bits), math.Inf(1)))
}

func TestNextUpAndDown(t *testing.T) {
	for _, f := range forms {
		for _, x := range f.floats() {
			up, down := f.nan, f.nan
			if !f.isNaN(x) {
				up, down = f.up(x), f.up(x^f.sign)^f.sign
			}
			if got := impl.NextUp(f.fm, x); got != up {
				t.Errorf("%d up from %x: %x", f.fm, x, got)
			}
			if got := impl.NextDown(f.fm, x); got != down {
				t.Errorf("%d down from %x: %x", f.fm, x, got)
			}
		}
	}
}

func TestNextAtTheEdges(t *testing.T) {
	for _, f := range forms {
		for _, r := range [][3]uint64{
			{0, 1, f.sign | 1}, {f.sign, 1, f.sign | 1},
			{1, 2, 0}, {f.sign | 1, f.sign, f.sign | 2},
			{f.greatest, f.inf, f.greatest - 1}, {f.sign | f.greatest, f.sign | (f.greatest - 1), f.sign | f.inf},
			{f.inf, f.inf, f.greatest}, {f.sign | f.inf, f.sign | f.greatest, f.sign | f.inf},
			{f.nan, f.nan, f.nan}, {f.sign | f.nan, f.nan, f.nan}, {f.inf + 1, f.nan, f.nan}, {f.all, f.nan, f.nan},
		} {
			if up, down := impl.NextUp(f.fm, r[0]), impl.NextDown(f.fm, r[0]); up != r[1] || down != r[2] {
				t.Errorf("%d %x: %x %x", f.fm, r[0], up, down)
			}
		}
	}
}

func (f form) units(bits uint64) *big.Int {
	v := new(big.Float).SetFloat64(f.value(bits))
	n, _ := v.SetMantExp(v, int(-f.unit)).Int(nil)
	return n
}

func TestUnitsOf(t *testing.T) {
	for _, f := range forms {
		for _, x := range f.floats() {
			u, ok := impl.UnitsOf(f.fm, x)
			if f.isFinite(x) {
				checkWide(t, "UnitsOf", u, ok, f.units(x))
			} else if ok || !wideIs(u, impl.Wide{}) {
				t.Errorf("%d %x is not finite", f.fm, x)
			}
		}
	}
	for _, f := range forms {
		if u, ok := impl.UnitsOf(f.fm, f.sign); !ok || u.Neg || len(u.Limbs) != 0 {
			t.Error("zero below 0", u)
		}
	}
}

func TestFloatsByName(t *testing.T) {
	for _, f := range forms {
		if impl.NaNOf(f.fm) != f.nan {
			t.Error("NaNOf", f.fm)
		}
		for _, neg := range []bool{false, true} {
			sign := uint64(0)
			if neg {
				sign = f.sign
			}
			if impl.InfOf(f.fm, neg) != sign|f.inf || impl.GreatestOf(f.fm, neg) != sign|f.greatest || impl.LeastOf(f.fm, neg) != sign|1 || impl.ZeroOf(f.fm, neg) != sign {
				t.Error(f.fm, neg)
			}
		}
	}
}

func TestNegatedAndAbsolute(t *testing.T) {
	for _, f := range forms {
		for _, x := range append(f.floats(), f.all) {
			if impl.Negated(f.fm, x) != x^f.sign || impl.Absolute(f.fm, x) != x&^f.sign {
				t.Errorf("%d %x", f.fm, x)
			}
		}
	}
}

func checkNoFloat(t *testing.T, fm int64, x uint64) {
	t.Helper()
	if impl.FloatOk(fm, x) || impl.ClassOf(fm, x) != -1 {
		t.Errorf("%d %x has a class", fm, x)
	}
	if p, ok := impl.PartsOf(fm, x); ok || p != (impl.Parts{}) {
		t.Errorf("%d %x has parts", fm, x)
	}
	if n, ok := impl.OrderOf(fm, x); ok || n != 0 {
		t.Errorf("%d %x has an order", fm, x)
	}
	if u, ok := impl.UnitsOf(fm, x); ok || !wideIs(u, impl.Wide{}) {
		t.Errorf("%d %x has units", fm, x)
	}
	if impl.CompareFloats(fm, x, 0) != 2 || impl.CompareFloats(fm, 0, x) != 2 || impl.CompareFloats(fm, x, x) != 2 {
		t.Errorf("%d %x is compared", fm, x)
	}
	if impl.NextUp(fm, x) != 0 || impl.NextDown(fm, x) != 0 || impl.Negated(fm, x) != 0 || impl.Absolute(fm, x) != 0 {
		t.Errorf("%d %x has others beside it", fm, x)
	}
}

func TestNoFloats(t *testing.T) {
	for _, f := range forms {
		for _, x := range f.notFloats() {
			checkNoFloat(t, f.fm, x)
		}
	}
	for _, fm := range noFormats {
		for _, x := range []uint64{0, 1, 0x3f800000, 0x7fc00000, 0x80000000, 0x7ff8000000000000, 1 << 63, math.MaxUint64} {
			checkNoFloat(t, fm, x)
		}
		if x, ok := impl.FromParts(fm, impl.Parts{Neg: true, M: 1}); ok || x != 0 {
			t.Error("FromParts", fm)
		}
		if x, ok := impl.FromParts(fm, impl.Parts{}); ok || x != 0 {
			t.Error("FromParts", fm)
		}
		for _, neg := range []bool{false, true} {
			if impl.NaNOf(fm)|impl.InfOf(fm, neg)|impl.GreatestOf(fm, neg)|impl.LeastOf(fm, neg)|impl.ZeroOf(fm, neg) != 0 {
				t.Error("named", fm)
			}
		}
	}
}

func TestPromise2Parts(t *testing.T) {
	for _, f := range forms {
		for _, x := range f.floats() {
			if !f.isFinite(x) {
				continue
			}
			p, ok := impl.PartsOf(f.fm, x)
			if back, is := impl.FromParts(f.fm, p); !ok || !is || back != x {
				t.Errorf("%d %x does not come back from %v", f.fm, x, p)
			}
		}
	}
}

func TestPromise2Order(t *testing.T) {
	for _, f := range forms {
		l := f.floats()
		d := &dice{5}
		for range 20000 {
			a, b := l[d.below(len(l))], l[d.below(len(l))]
			if !f.isFinite(a) || !f.isFinite(b) {
				continue
			}
			u, _ := impl.UnitsOf(f.fm, a)
			v, _ := impl.UnitsOf(f.fm, b)
			if c := impl.CompareFloats(f.fm, a, b); c != impl.WideCmp(u, v) || c != -impl.CompareFloats(f.fm, b, a) {
				t.Errorf("%d %x %x are not ordered as their units are", f.fm, a, b)
			}
			m, _ := impl.OrderOf(f.fm, a)
			n, _ := impl.OrderOf(f.fm, b)
			if both := f.isZero(a) && f.isZero(b); !both && int64(cmp.Compare(m, n)) != impl.WideCmp(u, v) {
				t.Errorf("%d %x %x: OrderOf is not in order", f.fm, a, b)
			}
		}
	}
}

func TestPromise2Next(t *testing.T) {
	for _, f := range forms {
		for _, x := range f.floats() {
			if !f.isFinite(x) || f.isZero(x) {
				continue
			}
			down := impl.NextDown(f.fm, x)
			if !f.isZero(down) && impl.NextUp(f.fm, down) != x {
				t.Errorf("%d up from down from %x: %x", f.fm, x, impl.NextUp(f.fm, down))
			}
			up := impl.NextUp(f.fm, x)
			if !f.isZero(up) && impl.NextDown(f.fm, up) != x {
				t.Errorf("%d down from up from %x: %x", f.fm, x, impl.NextDown(f.fm, up))
			}
			if impl.CompareFloats(f.fm, down, x) != -1 || impl.CompareFloats(f.fm, up, x) != 1 {
				t.Errorf("%d %x is not between %x and %x", f.fm, x, down, up)
			}
		}
	}
}

func TestUnitsAreNewMemory(t *testing.T) {
	for _, f := range forms {
		for _, x := range []uint64{1, f.sign | 1, f.greatest, f.nan - f.nan>>1} {
			u, _ := impl.UnitsOf(f.fm, x)
			was := bigOf(u)
			scribble(u)
			if v, ok := impl.UnitsOf(f.fm, x); !ok || bigOf(v).Cmp(was) != 0 {
				t.Errorf("%d %x: another answer the second time", f.fm, x)
			}
		}
	}
}
