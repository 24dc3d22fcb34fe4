package tests

import (
	"math"
	"math/big"
	"slices"
	"testing"

	"loop.example/g00672/impl"
)

// dice gives the same numbers in every run, so that a test that fails once fails again.
type dice struct{ state uint64 }

func (d *dice) next() uint64 {
	d.state += 0x9e3779b97f4a7c15
	x := d.state
	x = (x ^ x>>30) * 0xbf58476d1ce4e5b9
	x = (x ^ x>>27) * 0x94d049bb133111eb
	return x ^ x>>31
}

func (d *dice) below(n int) int { return int(d.next() % uint64(n)) }

// bigOf is what the limbs say, worked out apart from the program.
func bigOf(w impl.Wide) *big.Int {
	n := new(big.Int)
	for i := len(w.Limbs) - 1; i >= 0; i-- {
		n.Lsh(n, 32)
		n.Or(n, big.NewInt(int64(w.Limbs[i])))
	}
	if w.Neg {
		n.Neg(n)
	}
	return n
}

func wideOfBig(n *big.Int) impl.Wide {
	w := impl.Wide{Neg: n.Sign() < 0}
	rest := new(big.Int).Abs(n)
	low := big.NewInt(math.MaxUint32)
	for rest.Sign() != 0 {
		w.Limbs = append(w.Limbs, uint32(new(big.Int).And(rest, low).Uint64()))
		rest.Rsh(rest, 32)
	}
	return w
}

func power(n uint) *big.Int { return new(big.Int).Lsh(big.NewInt(1), n) }

func wideIs(w impl.Wide, v impl.Wide) bool {
	return w.Neg == v.Neg && slices.Equal(w.Limbs, v.Limbs)
}

// checkWide holds an answer of the program against a number: the same limbs, or none and false where it does not fit.
func checkWide(t *testing.T, what string, got impl.Wide, ok bool, want *big.Int) {
	t.Helper()
	w := wideOfBig(want)
	fits := len(w.Limbs) <= impl.MaxLimbs
	if !fits {
		w = impl.Wide{}
	}
	if ok != fits || !wideIs(got, w) {
		t.Errorf("%s: got %v of %d limbs, %v; want %v of %d limbs, %v", what, got.Neg, len(got.Limbs), ok, w.Neg, len(w.Limbs), fits)
	}
}

const spareMark = 0xdeadbeef

// roomy gives the same wide with marked spare room behind its limbs.
func roomy(w impl.Wide) impl.Wide {
	room := make([]uint32, len(w.Limbs)+impl.MaxLimbs+50)
	for i := range room {
		room[i] = spareMark
	}
	copy(room, w.Limbs)
	return impl.Wide{Neg: w.Neg, Limbs: room[:len(w.Limbs)]}
}

// untouched is false when something was written into w, or behind it.
func untouched(w impl.Wide, was impl.Wide) bool {
	if !wideIs(w, was) {
		return false
	}
	for _, x := range w.Limbs[len(w.Limbs):cap(w.Limbs)] {
		if x != spareMark {
			return false
		}
	}
	return true
}

// scribble writes over an answer and its spare room: whatever shares memory with it shows.
func scribble(w impl.Wide) {
	room := w.Limbs[:cap(w.Limbs)]
	for i := range room {
		room[i] = ^room[i]
	}
}

// rightWides: the edges of the chapter, and some of many lengths.
func rightWides() []impl.Wide {
	var ns []*big.Int
	for _, p := range []uint{0, 1, 4, 31, 32, 33, 63, 64, 65, 96, 3167, 3168, 3199, 3200, 6367, 6368, 6398, 6399} {
		ns = append(ns, power(p), new(big.Int).Sub(power(p), big.NewInt(1)), new(big.Int).Add(power(p), big.NewInt(1)))
	}
	ns = append(ns, greatestWide())
	d := &dice{1}
	for _, n := range []int{1, 1, 2, 2, 3, 4, 5, 8, 20, 99, 100, 101, 150, 199, 200} {
		w := impl.Wide{}
		for range n {
			w.Limbs = append(w.Limbs, uint32(d.next()))
		}
		w.Limbs[n-1] |= 1
		ns = append(ns, bigOf(w))
	}
	var l []impl.Wide
	for _, n := range ns {
		l = append(l, wideOfBig(n), wideOfBig(new(big.Int).Neg(n)))
	}
	return l
}

func greatestWide() *big.Int { return new(big.Int).Sub(power(32*impl.MaxLimbs), big.NewInt(1)) }

func wrongWides() []impl.Wide {
	long := make([]uint32, impl.MaxLimbs+1)
	long[impl.MaxLimbs] = 1
	capped := make([]uint32, impl.MaxLimbs)
	capped[0] = 1
	far := make([]uint32, 100000)
	far[99999] = 7
	return []impl.Wide{
		{Neg: true},
		{Neg: true, Limbs: []uint32{}},
		{Limbs: []uint32{0}},
		{Neg: true, Limbs: []uint32{0}},
		{Limbs: []uint32{5, 0}},
		{Neg: true, Limbs: []uint32{5, 6, 0}},
		{Limbs: capped},
		{Limbs: long},
		{Neg: true, Limbs: long},
		{Limbs: make([]uint32, impl.MaxLimbs+1)},
		{Limbs: far},
	}
}

var noFormats = []int64{0, 1, -1, 8, 16, 24, 31, 33, 53, 63, 65, 80, 128, -32, -64, 1<<32 + 32, 1<<32 + 64, math.MinInt64, math.MaxInt64}

// form says of a format what IEEE 754 says, apart from the program.
type form struct {
	fm        int64
	precision uint
	unit      int64
	greatestE int64
	sign      uint64
	inf       uint64
	nan       uint64
	greatest  uint64
	all       uint64
}

var forms = []form{
	{32, 24, -149, 104, 0x80000000, 0x7f800000, 0x7fc00000, 0x7f7fffff, math.MaxUint32},
	{64, 53, -1074, 971, 0x8000000000000000, 0x7ff0000000000000, 0x7ff8000000000000, 0x7fefffffffffffff, math.MaxUint64},
}

// value is a float as Go has it; every float of 32 bits is one of 64, too.
func (f form) value(bits uint64) float64 {
	if f.fm == 32 {
		return float64(math.Float32frombits(uint32(bits)))
	}
	return math.Float64frombits(bits)
}

// fromFloat is the float of the format that v is, or the nearest one.
func (f form) fromFloat(v float64) uint64 {
	if f.fm == 32 {
		return uint64(math.Float32bits(float32(v)))
	}
	return math.Float64bits(v)
}

func (f form) isNaN(bits uint64) bool { return bits&^f.sign > f.inf }

func (f form) isFinite(bits uint64) bool { return bits&^f.sign < f.inf }

func (f form) isZero(bits uint64) bool { return bits&^f.sign == 0 }

// floats: both signs of all edges, and floats of all exponents.
func (f form) floats() []uint64 {
	normal := uint64(1) << (f.precision - 1)
	l := []uint64{0, 1, 2, 3, normal >> 1, normal - 2, normal - 1, normal, normal + 1, 2*normal - 1, 2 * normal, 2*normal + 1}
	l = append(l, f.greatest-normal, f.greatest-1, f.greatest, f.inf, f.inf+1, f.nan-1, f.nan, f.nan+1, f.sign-1)
	d := &dice{uint64(f.fm)}
	for range 3000 {
		l = append(l, d.next()&(f.sign-1))
	}
	for e := uint64(0); e <= f.inf; e += normal {
		l = append(l, e, e|1, e|(normal-1), e|d.next()&(normal-1))
	}
	for _, x := range slices.Clone(l) {
		l = append(l, x|f.sign)
	}
	return l
}

// notFloats: what is no float of the format.
func (f form) notFloats() []uint64 {
	if f.fm == 64 {
		return nil
	}
	return []uint64{1 << 32, 1<<32 + 1, 1<<32 | 0x3f800000, 1<<32 | 0x7fc00000, 1 << 63, 1<<63 | 1, math.MaxUint64}
}
