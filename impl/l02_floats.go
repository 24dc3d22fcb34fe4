package impl

import (
	"cmp"
	"math/bits"
)

const (
	ClZero   = 0
	ClSub    = 1
	ClNormal = 2
	ClInf    = 3
	ClQuiet  = 4
	ClSignal = 5
)

const (
	clNone   = -1
	maxScale = 5000
)

// The formats, as places in formSizes.
const (
	formNone = iota
	form32
	form64
)

type Parts struct {
	Neg bool
	M   int64
	E   int64
}

// sizes is all that sets one format apart from another.
type sizes struct {
	below uint64 // how many bits stand below the exponent: P - 1
	ones  uint64 // the exponent of infinities and NaNs, as it stands in the bits
	unit  int64  // Q
}

var formSizes = [...]sizes{
	formNone: {},
	form32:   {below: 23, ones: 255, unit: -149},
	form64:   {below: 52, ones: 2047, unit: -1074},
}

func FloatOk(fm int64, bits uint64) bool {
	z, ok := sizesOf(fm)
	return ok && bits&^z.sign() < z.sign()
}

func ClassOf(fm int64, bits uint64) int64 {
	if !FloatOk(fm, bits) {
		return clNone
	}
	z, _ := sizesOf(fm)
	exponent, rest := z.parted(bits)
	switch {
	case exponent == 0 && rest == 0:
		return ClZero
	case exponent == 0:
		return ClSub
	case exponent < z.ones:
		return ClNormal
	case rest == 0:
		return ClInf
	case rest&z.quiet() != 0:
		return ClQuiet
	}
	return ClSignal
}

func PartsOf(fm int64, bits uint64) (Parts, bool) {
	if !isFinite(fm, bits) {
		return Parts{}, false
	}
	z, _ := sizesOf(fm)
	exponent, rest := z.parted(bits)
	p := Parts{Neg: hasSign(fm, bits), M: int64(rest), E: z.unit}
	if exponent > 0 {
		p.M += 1 << z.below
		p.E += int64(exponent) - 1
	}
	return p, true
}

func FromParts(fm int64, p Parts) (uint64, bool) {
	z, ok := sizesOf(fm)
	if !ok || p.M < 0 || p.E < -maxScale || p.E > maxScale {
		return 0, false
	}
	if p.M == 0 {
		return ZeroOf(fm, p.Neg), true
	}
	m, e, ok := z.settled(uint64(p.M), p.E)
	if !ok {
		return 0, false
	}
	// The highest bit of a normal M adds the one by which its exponent is more than E - Q.
	return z.signed(uint64(e-z.unit)<<z.below+m, p.Neg), true
}

func OrderOf(fm int64, bits uint64) (int64, bool) {
	if !FloatOk(fm, bits) {
		return 0, false
	}
	n := int64(Absolute(fm, bits))
	if hasSign(fm, bits) {
		return -1 - n, true
	}
	return n, true
}

func CompareFloats(fm int64, a uint64, b uint64) int64 {
	if !isNumber(fm, a) || !isNumber(fm, b) {
		return 2
	}
	if ClassOf(fm, a) == ClZero && ClassOf(fm, b) == ClZero {
		return 0
	}
	x, _ := OrderOf(fm, a)
	y, _ := OrderOf(fm, b)
	return int64(cmp.Compare(x, y))
}

func NextUp(fm int64, bits uint64) uint64 {
	switch ClassOf(fm, bits) {
	case clNone:
		return 0
	case ClQuiet, ClSignal:
		return NaNOf(fm)
	case ClZero:
		return LeastOf(fm, false)
	}
	switch {
	case bits == InfOf(fm, false):
		return bits
	case hasSign(fm, bits):
		return bits - 1
	}
	return bits + 1
}

func NextDown(fm int64, bits uint64) uint64 {
	if !isNumber(fm, bits) {
		// These do not turn with their sign.
		return NextUp(fm, bits)
	}
	return Negated(fm, NextUp(fm, Negated(fm, bits)))
}

func UnitsOf(fm int64, bits uint64) (Wide, bool) {
	p, ok := PartsOf(fm, bits)
	if !ok {
		return Wide{}, false
	}
	z, _ := sizesOf(fm)
	return WideShifted(signedM(p), p.E-z.unit)
}

func NaNOf(fm int64) uint64 {
	z, ok := sizesOf(fm)
	if !ok {
		return 0
	}
	return z.infinity() | z.quiet()
}

func InfOf(fm int64, neg bool) uint64 {
	z, ok := sizesOf(fm)
	if !ok {
		return 0
	}
	return z.signed(z.infinity(), neg)
}

func GreatestOf(fm int64, neg bool) uint64 {
	z, ok := sizesOf(fm)
	if !ok {
		return 0
	}
	return z.signed(z.infinity()-1, neg)
}

func LeastOf(fm int64, neg bool) uint64 {
	z, ok := sizesOf(fm)
	if !ok {
		return 0
	}
	return z.signed(1, neg)
}

func ZeroOf(fm int64, neg bool) uint64 {
	z, ok := sizesOf(fm)
	if !ok {
		return 0
	}
	return z.signed(0, neg)
}

func Negated(fm int64, bits uint64) uint64 {
	if !FloatOk(fm, bits) {
		return 0
	}
	z, _ := sizesOf(fm)
	return bits ^ z.sign()
}

func Absolute(fm int64, bits uint64) uint64 {
	if !FloatOk(fm, bits) {
		return 0
	}
	z, _ := sizesOf(fm)
	return bits &^ z.sign()
}

func signedM(p Parts) Wide {
	if p.Neg {
		return WideOf(-p.M)
	}
	return WideOf(p.M)
}

func hasSign(fm int64, bits uint64) bool {
	return bits != Absolute(fm, bits)
}

func isFinite(fm int64, bits uint64) bool {
	switch ClassOf(fm, bits) {
	case ClZero, ClSub, ClNormal:
		return true
	}
	return false
}

// isNumber is true for what has a place in the order of the floats: infinities, too, but no NaN.
func isNumber(fm int64, bits uint64) bool {
	return isFinite(fm, bits) || ClassOf(fm, bits) == ClInf
}

func sizesOf(fm int64) (sizes, bool) {
	form := formOf(fm)
	return formSizes[form], form != formNone
}

func formOf(fm int64) int {
	switch fm {
	case 32:
		return form32
	case 64:
		return form64
	}
	return formNone
}

func (z sizes) sign() uint64 {
	return (z.ones + 1) << z.below
}

func (z sizes) precision() int64 {
	return int64(z.below) + 1
}

func (z sizes) infinity() uint64 {
	return z.ones << z.below
}

// quiet is the bit by which quiet NaNs are told from signalling ones.
func (z sizes) quiet() uint64 {
	return 1 << (z.below - 1)
}

func (z sizes) signed(bits uint64, neg bool) uint64 {
	if neg {
		return bits | z.sign()
	}
	return bits
}

// parted gives the exponent as it stands in the bits, and what stands below it.
func (z sizes) parted(bits uint64) (uint64, uint64) {
	return bits >> z.below & z.ones, bits & (1<<z.below - 1)
}

// settled gives the M and the E that the format has for m times 2 to the e, m not being 0.
func (z sizes) settled(m uint64, e int64) (uint64, int64, bool) {
	low := bits.TrailingZeros64(m)
	m >>= low
	e += int64(low)
	spare := z.precision() - int64(bits.Len64(m))
	if spare < 0 || e < z.unit {
		return 0, 0, false
	}
	up := min(spare, e-z.unit)
	m <<= up
	e -= up
	return m, e, e-z.unit < int64(z.ones)-1
}
