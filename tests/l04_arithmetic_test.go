package tests

import (
	"math"
	"math/big"
	"testing"

	"loop.example/g00672/impl"
)

func (f form) isSignal(bits uint64) bool { return f.isNaN(bits) && bits&^f.sign < f.nan }

// nanOf tells whether one is a NaN, and which flags they have then.
func (f form) nanOf(floats ...uint64) (bool, int64) {
	is, flags := false, int64(0)
	for _, x := range floats {
		is = is || f.isNaN(x)
		if f.isSignal(x) {
			flags = impl.FlInvalid
		}
	}
	return is, flags
}

// special is a NaN or an infinity that Go's own floats came to, as the chapter has it.
func (f form) special(v float64) (uint64, int64) {
	switch {
	case math.IsNaN(v):
		return f.nan, impl.FlInvalid
	case v < 0:
		return f.sign | f.inf, 0
	}
	return f.inf, 0
}

// zero of two parts: the sign that both have, else that of the mode.
func (f form) zero(mode int64, a bool, b bool) uint64 {
	if a && b || a != b && mode == impl.RmDown {
		return f.sign
	}
	return 0
}

func (f form) added(mode int64, a uint64, b uint64) (uint64, int64) {
	if is, flags := f.nanOf(a, b); is {
		return f.nan, flags
	}
	if !f.isFinite(a) || !f.isFinite(b) {
		return f.special(f.value(a) + f.value(b))
	}
	n := new(big.Int).Add(f.units(a), f.units(b))
	if n.Sign() == 0 {
		return f.zero(mode, a&f.sign != 0, b&f.sign != 0), 0
	}
	return f.rounded(mode, exact{n, f.unit})
}

func (f form) multiplied(mode int64, a uint64, b uint64) (uint64, int64) {
	if is, flags := f.nanOf(a, b); is {
		return f.nan, flags
	}
	if !f.isFinite(a) || !f.isFinite(b) {
		return f.special(f.value(a) * f.value(b))
	}
	n := new(big.Int).Mul(f.units(a), f.units(b))
	if n.Sign() == 0 {
		return (a ^ b) & f.sign, 0
	}
	return f.rounded(mode, exact{n, 2 * f.unit})
}

func (f form) fused(mode int64, a uint64, b uint64, c uint64) (uint64, int64) {
	invalid := f.isZero(a) && b&^f.sign == f.inf || f.isZero(b) && a&^f.sign == f.inf
	if is, flags := f.nanOf(a, b, c); is {
		if invalid {
			flags = impl.FlInvalid
		}
		return f.nan, flags
	}
	if invalid {
		return f.nan, impl.FlInvalid
	}
	if !f.isFinite(a) || !f.isFinite(b) {
		return f.special(f.value(a)*f.value(b) + f.value(c))
	}
	if !f.isFinite(c) {
		return c, 0
	}
	n := new(big.Int).Mul(f.units(a), f.units(b))
	n.Add(n, new(big.Int).Lsh(f.units(c), uint(-f.unit)))
	if n.Sign() == 0 {
		return f.zero(mode, (a^b)&f.sign != 0, c&f.sign != 0), 0
	}
	return f.rounded(mode, exact{n, 2 * f.unit})
}

func check(t *testing.T, what string, f form, mode int64, args []uint64, x uint64, flags int64, ok bool, want uint64, told int64) {
	t.Helper()
	if !ok || x != want || flags != told {
		t.Errorf("%s %d mode %d of %x: %x %d %v, want %x %d", what, f.fm, mode, args, x, flags, ok, want, told)
	}
}

func checkTwo(t *testing.T, f form, mode int64, a uint64, b uint64) {
	t.Helper()
	args := []uint64{a, b}
	want, told := f.added(mode, a, b)
	x, flags, ok := impl.FloatAdd(f.fm, mode, a, b)
	check(t, "FloatAdd", f, mode, args, x, flags, ok, want, told)
	x, flags, ok = impl.FloatAdd(f.fm, mode, b, a)
	check(t, "FloatAdd turned", f, mode, args, x, flags, ok, want, told)
	want, told = f.added(mode, a, b^f.sign)
	x, flags, ok = impl.FloatSub(f.fm, mode, a, b)
	check(t, "FloatSub", f, mode, args, x, flags, ok, want, told)
	want, told = f.multiplied(mode, a, b)
	x, flags, ok = impl.FloatMul(f.fm, mode, a, b)
	check(t, "FloatMul", f, mode, args, x, flags, ok, want, told)
	x, flags, ok = impl.FloatMul(f.fm, mode, b, a)
	check(t, "FloatMul turned", f, mode, args, x, flags, ok, want, told)
}

func checkThree(t *testing.T, f form, mode int64, a uint64, b uint64, c uint64) {
	t.Helper()
	want, told := f.fused(mode, a, b, c)
	x, flags, ok := impl.FloatFma(f.fm, mode, a, b, c)
	check(t, "FloatFma", f, mode, []uint64{a, b, c}, x, flags, ok, want, told)
	x, flags, ok = impl.FloatFma(f.fm, mode, b, a, c)
	check(t, "FloatFma turned", f, mode, []uint64{a, b, c}, x, flags, ok, want, told)
}

func (f form) one() uint64 { return (f.inf >> 1) &^ (1<<(f.precision-1) - 1) }

// corners: both signs of every kind of float.
func (f form) corners() []uint64 {
	normal := uint64(1) << (f.precision - 1)
	one := f.one()
	l := []uint64{0, 1, 2, normal - 1, normal, normal + 1, one - 1, one, one + 1, one + normal/2, one + normal, f.greatest - 1, f.greatest, f.inf, f.inf + 1, f.nan - 1, f.nan, f.nan + 1, f.sign - 1}
	for _, x := range l[:len(l):len(l)] {
		l = append(l, f.sign|x)
	}
	return l
}

func TestArithmeticOfCorners(t *testing.T) {
	for _, f := range forms {
		if f.value(f.one()) != 1 {
			t.Fatal("one")
		}
		l := f.corners()
		for _, a := range l {
			for _, b := range l {
				for _, mode := range modes {
					checkTwo(t, f, mode, a, b)
				}
			}
		}
	}
}

func TestFmaOfCorners(t *testing.T) {
	for _, f := range forms {
		l := f.corners()
		d := &dice{41}
		for _, a := range l {
			for _, b := range l {
				for _, c := range l {
					checkThree(t, f, modes[d.below(6)], a, b, c)
				}
			}
		}
	}
}

// near is a float whose exponent is not far from that of another one, so that both have bits in common places.
func (f form) near(d *dice, bits uint64) uint64 {
	normal := uint64(1) << (f.precision - 1)
	e := int64(bits&^f.sign/normal) + int64(d.below(64)) - 32
	e = max(0, min(e, int64(f.greatest/normal)))
	x := uint64(e)*normal | d.next()&(normal-1)
	if d.below(3) == 0 {
		// Few bits, so that halves come up.
		x &^= normal>>1 - 1
	}
	return x | d.next()&f.sign
}

func TestArithmeticOfAny(t *testing.T) {
	for _, f := range forms {
		l := f.floats()
		d := &dice{42}
		for i := range 9000 {
			a := l[d.below(len(l))]
			b := l[d.below(len(l))]
			if i%2 == 0 {
				b = f.near(d, a)
			}
			checkTwo(t, f, modes[d.below(6)], a, b)
		}
	}
}

func TestFmaOfAny(t *testing.T) {
	for _, f := range forms {
		l := f.floats()
		d := &dice{43}
		for i := range 9000 {
			a := l[d.below(len(l))]
			b := f.near(d, f.one()+d.next()%1024)
			c := l[d.below(len(l))]
			if i%3 > 0 {
				c, _ = f.multiplied(impl.RmZero, a, b)
				if f.isFinite(c) {
					c = f.near(d, c)
				}
			}
			checkThree(t, f, modes[d.below(6)], a, b, c)
		}
	}
}

// The machine's own floats round to the nearest even one.
func TestArithmeticAsTheMachineHasIt(t *testing.T) {
	d := &dice{44}
	for range 30000 {
		a, b, c := uint32(d.next()), uint32(d.next()), uint32(d.next())
		x, y := math.Float32frombits(a), math.Float32frombits(b)
		if x != x || y != y {
			continue
		}
		sum, _, _ := impl.FloatAdd(32, impl.RmEven, uint64(a), uint64(b))
		if s := x + y; s == s && uint32(sum) != math.Float32bits(s) {
			t.Errorf("%x and %x: %x", a, b, sum)
		}
		product, _, _ := impl.FloatMul(32, impl.RmEven, uint64(a), uint64(b))
		if p := x * y; p == p && uint32(product) != math.Float32bits(p) {
			t.Errorf("%x times %x: %x", a, b, product)
		}
		wide := math.Float64frombits(d.next())
		other := wide * float64(int32(c)) * 1e-3
		fused := math.FMA(wide, 1.1, other)
		got, _, _ := impl.FloatFma(64, impl.RmEven, math.Float64bits(wide), math.Float64bits(1.1), math.Float64bits(other))
		if fused == fused && got != math.Float64bits(fused) {
			t.Errorf("%x times 1.1 and %x: %x", math.Float64bits(wide), math.Float64bits(other), got)
		}
	}
}

func TestSumsThatAreZero(t *testing.T) {
	for _, f := range forms {
		for _, mode := range modes {
			var down uint64
			if mode == impl.RmDown {
				down = f.sign
			}
			for _, r := range [][3]uint64{{0, 0, 0}, {f.sign, f.sign, f.sign}, {0, f.sign, down}, {f.sign, 0, down}, {f.one(), f.sign | f.one(), down}, {f.sign | 1, 1, down}, {f.greatest, f.sign | f.greatest, down}} {
				x, flags, ok := impl.FloatAdd(f.fm, mode, r[0], r[1])
				check(t, "FloatAdd", f, mode, r[:2], x, flags, ok, r[2], 0)
				x, flags, ok = impl.FloatSub(f.fm, mode, r[0], r[1]^f.sign)
				check(t, "FloatSub", f, mode, r[:2], x, flags, ok, r[2], 0)
				// The same with a product in the place of the first one.
				x, flags, ok = impl.FloatFma(f.fm, mode, r[0], f.one(), r[1])
				check(t, "FloatFma", f, mode, r[:2], x, flags, ok, r[2], 0)
				x, flags, ok = impl.FloatFma(f.fm, mode, f.sign|f.one(), r[0]^f.sign, r[1])
				check(t, "FloatFma", f, mode, r[:2], x, flags, ok, r[2], 0)
			}
			// A product that would come to 0 when it was rounded is none that is 0.
			x, flags, ok := impl.FloatFma(f.fm, mode, 1, 1, 0)
			want, told := f.rounded(mode, exactOf(1, 2*f.unit))
			check(t, "FloatFma of the least ones", f, mode, nil, x, flags, ok, want, told)
			x, flags, ok = impl.FloatFma(f.fm, mode, 1, f.sign|1, f.sign)
			want, told = f.rounded(mode, exactOf(-1, 2*f.unit))
			check(t, "FloatFma of the least ones", f, mode, nil, x, flags, ok, want, told)
		}
	}
}

func TestInvalid(t *testing.T) {
	for _, f := range forms {
		minus := f.sign | f.inf
		for _, mode := range modes {
			for _, r := range [][2]uint64{{f.inf, minus}, {minus, f.inf}} {
				x, flags, ok := impl.FloatAdd(f.fm, mode, r[0], r[1])
				check(t, "FloatAdd", f, mode, r[:], x, flags, ok, f.nan, 8)
				x, flags, ok = impl.FloatSub(f.fm, mode, r[0], r[0])
				check(t, "FloatSub", f, mode, r[:1], x, flags, ok, f.nan, 8)
				x, flags, ok = impl.FloatFma(f.fm, mode, r[0], f.one(), r[1])
				check(t, "FloatFma", f, mode, r[:], x, flags, ok, f.nan, 8)
			}
			for _, r := range [][2]uint64{{0, f.inf}, {f.inf, 0}, {f.sign, f.inf}, {minus, f.sign}, {0, minus}} {
				x, flags, ok := impl.FloatMul(f.fm, mode, r[0], r[1])
				check(t, "FloatMul", f, mode, r[:], x, flags, ok, f.nan, 8)
				for _, c := range []uint64{0, f.one(), f.inf, minus, f.nan, f.sign | f.nan, f.nan + 1, f.inf + 1} {
					x, flags, ok = impl.FloatFma(f.fm, mode, r[0], r[1], c)
					check(t, "FloatFma", f, mode, []uint64{r[0], r[1], c}, x, flags, ok, f.nan, 8)
				}
			}
		}
	}
}

func TestNaNs(t *testing.T) {
	for _, f := range forms {
		for _, mode := range modes {
			for _, nan := range []uint64{f.nan, f.nan + 1, f.sign | f.nan, f.all, f.inf + 1, f.nan - 1, f.sign | (f.inf + 1)} {
				want := int64(0)
				if f.isSignal(nan) {
					want = impl.FlInvalid
				}
				for _, b := range []uint64{0, f.sign, 1, f.one(), f.greatest, f.inf, f.sign | f.inf, f.nan} {
					checkTwo(t, f, mode, nan, b)
					checkTwo(t, f, mode, b, nan)
					x, flags, ok := impl.FloatFma(f.fm, mode, b, f.one(), nan)
					check(t, "FloatFma", f, mode, []uint64{b, f.one(), nan}, x, flags, ok, f.nan, want)
					checkThree(t, f, mode, nan, b, b)
				}
				x, flags, ok := impl.FloatInt(f.fm, mode, nan)
				check(t, "FloatInt", f, mode, []uint64{nan}, x, flags, ok, f.nan, want)
				for _, n := range []int64{0, 1, -5000, 5000} {
					x, flags, ok = impl.FloatScaled(f.fm, mode, nan, n)
					check(t, "FloatScaled", f, mode, []uint64{nan}, x, flags, ok, f.nan, want)
				}
			}
			// One that signals tells it from behind a quiet one, too.
			x, flags, ok := impl.FloatFma(f.fm, mode, f.nan, f.one(), f.inf+1)
			check(t, "FloatFma", f, mode, nil, x, flags, ok, f.nan, 8)
			x, flags, ok = impl.FloatFma(f.fm, mode, f.inf+1, f.one(), f.nan)
			check(t, "FloatFma", f, mode, nil, x, flags, ok, f.nan, 8)
		}
	}
}

// Here rounding the product, and then the sum, gives another float than rounding once.
func TestFmaRoundsOnce(t *testing.T) {
	for _, f := range forms {
		// The square of the float behind 1, less that square rounded, is what rounding took from it.
		a := f.one() + 1
		square, _, _ := impl.FloatMul(f.fm, impl.RmEven, a, a)
		x, flags, ok := impl.FloatFma(f.fm, impl.RmEven, a, a, f.sign|square)
		want, told := f.fused(impl.RmEven, a, a, f.sign|square)
		check(t, "FloatFma", f, impl.RmEven, []uint64{a, a, square}, x, flags, ok, want, told)
		if f.isZero(x) {
			t.Errorf("%d: nothing is left of it", f.fm)
		}
		differ := 0
		d := &dice{45}
		for range 3000 {
			a, b := f.near(d, f.one()), f.near(d, f.one())
			c := f.near(d, f.one())
			mode := modes[d.below(6)]
			p, _, _ := impl.FloatMul(f.fm, mode, a, b)
			twice, _, _ := impl.FloatAdd(f.fm, mode, p, c)
			once, flags, ok := impl.FloatFma(f.fm, mode, a, b, c)
			want, told := f.fused(mode, a, b, c)
			check(t, "FloatFma", f, mode, []uint64{a, b, c}, once, flags, ok, want, told)
			if once != twice {
				differ++
			}
		}
		if differ < 100 {
			t.Errorf("%d: only %d tell once from twice", f.fm, differ)
		}
	}
}

// whole is what FloatInt must answer of a number.
func (f form) whole(mode int64, a uint64) (uint64, int64) {
	if !f.isFinite(a) || f.isZero(a) {
		return a, 0
	}
	n, same := f.exactOf(a).steps(mode, 0)
	v, _ := new(big.Float).SetInt(n).Float64()
	if same {
		return a, 0
	}
	return f.fromFloat(v) | a&f.sign, impl.FlInexact
}

func TestFloatInt(t *testing.T) {
	for _, f := range forms {
		l := f.floats()
		for i := range 200 {
			for _, v := range []float64{float64(i) / 2, float64(i)/2 - 0.25, float64(i)/2 + 1.0/1024} {
				bits := f.fromFloat(v)
				l = append(l, bits, bits|f.sign)
			}
		}
		for e := range int64(f.precision) + 2 {
			// One place below and one above the last whole one.
			bits := f.fromFloat(math.Ldexp(1, int(e)))
			l = append(l, bits-1, bits, bits+1, bits+2, bits+3, (bits+1)|f.sign, (bits-1)|f.sign, (bits+3)|f.sign)
		}
		for _, a := range l {
			if f.isNaN(a) {
				continue
			}
			for _, mode := range modes {
				want, told := f.whole(mode, a)
				x, flags, ok := impl.FloatInt(f.fm, mode, a)
				check(t, "FloatInt", f, mode, []uint64{a}, x, flags, ok, want, told)
			}
		}
	}
}

func TestFloatIntByTable(t *testing.T) {
	const none = math.MaxFloat32
	for _, r := range []struct {
		v    float64
		want [6]float64
	}{
		{0.5, [6]float64{0, 0, 1, 0, 1, 0}}, {1.5, [6]float64{2, 1, 2, 1, 2, 1}}, {2.5, [6]float64{2, 2, 3, 2, 3, 2}},
		{0.25, [6]float64{0, 0, 1, 0, 0, 0}}, {0.75, [6]float64{1, 0, 1, 0, 1, 1}}, {3.75, [6]float64{4, 3, 4, 3, 4, 4}},
		{1e-30, [6]float64{0, 0, 1, 0, 0, 0}}, {7, [6]float64{7, 7, 7, 7, 7, 7}}, {none, [6]float64{none, none, none, none, none, none}},
	} {
		for _, f := range forms {
			told := int64(0)
			if r.v != math.Trunc(r.v) {
				told = impl.FlInexact
			}
			for _, mode := range modes {
				x, flags, ok := impl.FloatInt(f.fm, mode, f.fromFloat(r.v))
				check(t, "FloatInt", f, mode, []uint64{f.fromFloat(r.v)}, x, flags, ok, f.fromFloat(r.want[mode]), told)
				turned := []int64{0, 1, 3, 2, 4, 5}[mode]
				x, flags, ok = impl.FloatInt(f.fm, turned, f.sign|f.fromFloat(r.v))
				check(t, "FloatInt below 0", f, turned, []uint64{f.fromFloat(r.v)}, x, flags, ok, f.sign|f.fromFloat(r.want[mode]), told)
			}
		}
	}
}

func TestFloatIntOfTheLeast(t *testing.T) {
	for _, f := range forms {
		for _, mode := range modes {
			up, down := uint64(0), f.sign
			if mode == impl.RmUp {
				up = f.one()
			}
			if mode == impl.RmDown {
				down = f.sign | f.one()
			}
			x, flags, ok := impl.FloatInt(f.fm, mode, 1)
			check(t, "FloatInt", f, mode, []uint64{1}, x, flags, ok, up, 1)
			x, flags, ok = impl.FloatInt(f.fm, mode, f.sign|1)
			check(t, "FloatInt", f, mode, []uint64{f.sign | 1}, x, flags, ok, down, 1)
			for _, stays := range []uint64{0, f.sign, f.inf, f.sign | f.inf, f.greatest, f.sign | f.greatest} {
				x, flags, ok = impl.FloatInt(f.fm, mode, stays)
				check(t, "FloatInt", f, mode, []uint64{stays}, x, flags, ok, stays, 0)
			}
		}
	}
}

func TestFloatScaled(t *testing.T) {
	ns := []int64{0, 1, -1, 23, -23, 52, -53, 127, -149, -150, 1000, -1000, -1074, -1075, 2045, 2098, -2098, 2099, -2100, 4999, -4999, 5000, -5000}
	for _, f := range forms {
		l := append(f.corners(), f.floats()[:60]...)
		for _, a := range l {
			for _, n := range ns {
				for _, mode := range modes {
					if f.isNaN(a) {
						continue
					}
					want, told := a, int64(0)
					if f.isFinite(a) && !f.isZero(a) {
						want, told = f.rounded(mode, exact{f.units(a), f.unit + n})
					}
					x, flags, ok := impl.FloatScaled(f.fm, mode, a, n)
					check(t, "FloatScaled", f, mode, []uint64{a, uint64(n)}, x, flags, ok, want, told)
				}
			}
			for _, n := range []int64{-5001, 5001, math.MinInt64, math.MaxInt64, 1 << 32} {
				for _, mode := range modes {
					if x, flags, ok := impl.FloatScaled(f.fm, mode, a, n); ok || x != 0 || flags != 0 {
						t.Errorf("%x by %d: %x %d %v", a, n, x, flags, ok)
					}
				}
			}
		}
	}
}

func checkNoArithmetic(t *testing.T, fm int64, mode int64, a uint64, b uint64, c uint64) {
	t.Helper()
	x, flags, ok := impl.FloatFma(fm, mode, a, b, c)
	if ok || x != 0 || flags != 0 {
		t.Errorf("FloatFma %d mode %d %x %x %x: %x %d", fm, mode, a, b, c, x, flags)
	}
}

func checkNoTwo(t *testing.T, fm int64, mode int64, a uint64, b uint64) {
	t.Helper()
	for _, op := range []func(int64, int64, uint64, uint64) (uint64, int64, bool){impl.FloatAdd, impl.FloatSub, impl.FloatMul} {
		if x, flags, ok := op(fm, mode, a, b); ok || x != 0 || flags != 0 {
			t.Errorf("%d mode %d %x %x: %x %d", fm, mode, a, b, x, flags)
		}
	}
	for _, c := range []uint64{0, 0x3f800000, 0x7fc00000, 0x7f800001} {
		checkNoArithmetic(t, fm, mode, a, b, c)
		checkNoArithmetic(t, fm, mode, a, c, b)
		checkNoArithmetic(t, fm, mode, c, a, b)
	}
}

func checkNoOne(t *testing.T, fm int64, mode int64, a uint64) {
	t.Helper()
	if x, flags, ok := impl.FloatInt(fm, mode, a); ok || x != 0 || flags != 0 {
		t.Errorf("FloatInt %d mode %d %x: %x %d", fm, mode, a, x, flags)
	}
	if x, flags, ok := impl.FloatScaled(fm, mode, a, 1); ok || x != 0 || flags != 0 {
		t.Errorf("FloatScaled %d mode %d %x: %x %d", fm, mode, a, x, flags)
	}
}

func TestArithmeticRefuses(t *testing.T) {
	some := []uint64{0, 1, 0x3f800000, 0x7f800000, 0x7fc00000, 0x7f800001, 0x80000000}
	for _, f := range forms {
		for _, mode := range noModes {
			for _, a := range some {
				checkNoOne(t, f.fm, mode, a)
				checkNoTwo(t, f.fm, mode, a, 0x3f800000)
				checkNoTwo(t, f.fm, mode, f.inf, a)
			}
		}
		for _, no := range f.notFloats() {
			for _, mode := range append(modes, noModes...) {
				checkNoOne(t, f.fm, mode, no)
				for _, a := range some {
					checkNoTwo(t, f.fm, mode, a, no)
					checkNoTwo(t, f.fm, mode, no, a)
				}
			}
		}
	}
	for _, fm := range noFormats {
		for _, mode := range modes {
			for _, a := range some {
				checkNoOne(t, fm, mode, a)
				checkNoTwo(t, fm, mode, a, 0)
				checkNoTwo(t, fm, mode, 0x3f800000, a)
			}
		}
	}
}

func TestPromise4Once(t *testing.T) {
	for _, f := range forms {
		l := f.floats()
		d := &dice{46}
		for range 6000 {
			a := l[d.below(len(l))]
			b := f.near(d, a)
			if !f.isFinite(a) || f.isZero(a) || f.isZero(b) {
				continue
			}
			mode := modes[d.below(6)]
			u, _ := impl.UnitsOf(f.fm, a)
			v, _ := impl.UnitsOf(f.fm, b)
			w, _ := impl.WideAdd(u, v)
			sum, flags, ok := impl.FloatAdd(f.fm, mode, a, b)
			if want, told, _ := impl.Rounded(f.fm, mode, w, f.unit); len(w.Limbs) > 0 && (!ok || sum != want || flags != told) {
				t.Errorf("%d mode %d: %x and %x are not the exact sum, rounded once", f.fm, mode, a, b)
			}
			w, _ = impl.WideMul(u, v)
			product, flags, ok := impl.FloatMul(f.fm, mode, a, b)
			if want, told, _ := impl.Rounded(f.fm, mode, w, 2*f.unit); !ok || product != want || flags != told {
				t.Errorf("%d mode %d: %x times %x is not the exact product, rounded once", f.fm, mode, a, b)
			}
		}
	}
}

func TestPromise4EitherWay(t *testing.T) {
	for _, f := range forms {
		l := f.floats()
		d := &dice{47}
		for range 20000 {
			a, b, mode := l[d.below(len(l))], l[d.below(len(l))], modes[d.below(6)]
			x, flags, ok := impl.FloatAdd(f.fm, mode, a, b)
			y, others, is := impl.FloatAdd(f.fm, mode, b, a)
			if !ok || !is || x != y || flags != others {
				t.Errorf("%d mode %d: the sums of %x and %x", f.fm, mode, a, b)
			}
			x, flags, ok = impl.FloatMul(f.fm, mode, a, b)
			y, others, is = impl.FloatMul(f.fm, mode, b, a)
			if !ok || !is || x != y || flags != others {
				t.Errorf("%d mode %d: the products of %x and %x", f.fm, mode, a, b)
			}
		}
	}
}

func TestPromise4Near(t *testing.T) {
	for _, f := range forms {
		normal := uint64(1) << (f.precision - 1)
		l := append(f.floats(), f.edges()...)
		d := &dice{48}
		seen := 0
		for _, b := range l {
			for range 4 {
				a := b + d.next()%(2*normal) - normal
				if d.below(2) == 0 {
					a = b + uint64(d.below(7)) - 3
				}
				if !impl.FloatOk(f.fm, a) || !f.isFinite(a) || !f.isFinite(b) || (a^b)&f.sign != 0 {
					continue
				}
				u, v := f.exactOf(a).abs(), f.exactOf(b).abs()
				if u.finer(1).n.Cmp(v.n) < 0 || u.n.Cmp(v.finer(1).n) > 0 {
					continue
				}
				seen++
				for _, mode := range modes {
					x, flags, ok := impl.FloatSub(f.fm, mode, a, b)
					if !ok || flags != 0 || f.exactOf(x).cmp(f.exactOf(a).minus(f.exactOf(b))) != 0 {
						t.Errorf("%d mode %d: %x less %x is %x %d", f.fm, mode, a, b, x, flags)
					}
				}
			}
		}
		if seen < 1000 {
			t.Errorf("%d: only %d were near", f.fm, seen)
		}
	}
}
