package impl

import (
	"cmp"
	"math/bits"
	"strings"
)

const MaxLimbs = 200

const (
	limbBits   = 32
	limbDigits = 8
	maxShift   = 10000
	hexDigits  = "0123456789abcdef"
)

type Wide struct {
	Neg   bool
	Limbs []uint32
}

func WideOk(a Wide) bool {
	n := len(a.Limbs)
	if n == 0 {
		return !a.Neg
	}
	return n <= MaxLimbs && a.Limbs[n-1] != 0
}

func WideOf(n int64) Wide {
	size := uint64(n)
	if n < 0 {
		// The least int64 has no opposite among them, but has one here, by wrapping round.
		size = -size
	}
	w, _ := fitted(n < 0, []uint32{uint32(size), uint32(size >> limbBits)})
	return w
}

func WideSmall(a Wide) (int64, bool) {
	if !WideOk(a) || len(a.Limbs) > 2 {
		return 0, false
	}
	var size uint64
	for i, x := range a.Limbs {
		size |= uint64(x) << (limbBits * i)
	}
	switch {
	case a.Neg && size <= 1<<63:
		return int64(-size), true
	case !a.Neg && size < 1<<63:
		return int64(size), true
	}
	return 0, false
}

func WideAdd(a Wide, b Wide) (Wide, bool) {
	if !WideOk(a) || !WideOk(b) {
		return Wide{}, false
	}
	if a.Neg == b.Neg {
		return fitted(a.Neg, addLimbs(a.Limbs, b.Limbs))
	}
	if cmpLimbs(a.Limbs, b.Limbs) < 0 {
		a, b = b, a
	}
	return fitted(a.Neg, subLimbs(a.Limbs, b.Limbs))
}

func WideMul(a Wide, b Wide) (Wide, bool) {
	if !WideOk(a) || !WideOk(b) {
		return Wide{}, false
	}
	return fitted(a.Neg != b.Neg, mulLimbs(a.Limbs, b.Limbs))
}

func WideNegated(a Wide) Wide {
	if !WideOk(a) {
		return Wide{}
	}
	w, _ := fitted(!a.Neg, append([]uint32{}, a.Limbs...))
	return w
}

func WideShifted(a Wide, n int64) (Wide, bool) {
	if !WideOk(a) || n < -maxShift || n > maxShift {
		return Wide{}, false
	}
	if n < 0 {
		return fitted(a.Neg, shiftedDown(a.Limbs, int(-n)))
	}
	return fitted(a.Neg, shiftedUp(a.Limbs, int(n)))
}

func WideCmp(a Wide, b Wide) int64 {
	if !WideOk(a) || !WideOk(b) {
		return 2
	}
	switch {
	case a.Neg && b.Neg:
		return cmpLimbs(b.Limbs, a.Limbs)
	case a.Neg:
		return -1
	case b.Neg:
		return 1
	}
	return cmpLimbs(a.Limbs, b.Limbs)
}

func BitLen(a Wide) int64 {
	if !WideOk(a) {
		return -1
	}
	n := len(a.Limbs)
	if n == 0 {
		return 0
	}
	return int64(limbBits*(n-1) + bits.Len32(a.Limbs[n-1]))
}

func LowZeros(a Wide) int64 {
	if !WideOk(a) {
		return -1
	}
	for i, x := range a.Limbs {
		if x != 0 {
			return int64(limbBits*i + bits.TrailingZeros32(x))
		}
	}
	return -1
}

func WideText(a Wide) string {
	if !WideOk(a) {
		return ""
	}
	if len(a.Limbs) == 0 {
		return "0"
	}
	var out []byte
	if a.Neg {
		out = append(out, '-')
	}
	for i := int(BitLen(a)+3)/4 - 1; i >= 0; i-- {
		d := a.Limbs[i/limbDigits] >> (4 * (i % limbDigits)) & 15
		out = append(out, hexDigits[d])
	}
	return string(out)
}

func ReadWide(s string) (Wide, bool) {
	if s == "0" {
		return Wide{}, true
	}
	digits, neg := strings.CutPrefix(s, "-")
	n := len(digits)
	if n == 0 || n > MaxLimbs*limbDigits || digits[0] == '0' {
		return Wide{}, false
	}
	limbs := make([]uint32, (n+limbDigits-1)/limbDigits)
	for i, r := range digits {
		d, ok := hexValue(r)
		if !ok {
			return Wide{}, false
		}
		place := n - 1 - i
		limbs[place/limbDigits] |= d << (4 * (place % limbDigits))
	}
	return fitted(neg, limbs)
}

func hexValue(r rune) (uint32, bool) {
	switch {
	case '0' <= r && r <= '9':
		return uint32(r - '0'), true
	case 'a' <= r && r <= 'f':
		return uint32(r-'a') + 10, true
	}
	return 0, false
}

// fitted keeps limbs as they lie, so it is given none but those that were made for the answer.
func fitted(neg bool, limbs []uint32) (Wide, bool) {
	n := len(limbs)
	for n > 0 && limbs[n-1] == 0 {
		n--
	}
	if n == 0 {
		return Wide{}, true
	}
	if n > MaxLimbs {
		return Wide{}, false
	}
	return Wide{Neg: neg, Limbs: limbs[:n]}, true
}

// cmpLimbs may go by the length first: neither list ends in a nought.
func cmpLimbs(a []uint32, b []uint32) int64 {
	if len(a) != len(b) {
		return int64(cmp.Compare(len(a), len(b)))
	}
	for i := len(a) - 1; i >= 0; i-- {
		if a[i] != b[i] {
			return int64(cmp.Compare(a[i], b[i]))
		}
	}
	return 0
}

// limbAt lets the shorter one of two numbers go on with noughts.
func limbAt(a []uint32, i int) uint32 {
	if i < len(a) {
		return a[i]
	}
	return 0
}

func addLimbs(a []uint32, b []uint32) []uint32 {
	n := max(len(a), len(b))
	out := make([]uint32, n+1)
	var carry uint32
	for i := range n {
		out[i], carry = bits.Add32(limbAt(a, i), limbAt(b, i), carry)
	}
	out[n] = carry
	return out
}

// subLimbs is asked for only where a is not less than b, so nothing is borrowed at the end.
func subLimbs(a []uint32, b []uint32) []uint32 {
	out := make([]uint32, len(a))
	var borrow uint32
	for i := range a {
		out[i], borrow = bits.Sub32(a[i], limbAt(b, i), borrow)
	}
	return out
}

func mulLimbs(a []uint32, b []uint32) []uint32 {
	out := make([]uint32, len(a)+len(b))
	for i, x := range a {
		var carry uint64
		for j, y := range b {
			// At most (2^32 - 1)^2 + 2 (2^32 - 1), which is 2^64 - 1: it never wraps.
			t := uint64(x)*uint64(y) + uint64(out[i+j]) + carry
			out[i+j] = uint32(t)
			carry = t >> limbBits
		}
		out[i+len(b)] = uint32(carry)
	}
	return out
}

func shiftedUp(a []uint32, n int) []uint32 {
	whole, rest := n/limbBits, n%limbBits
	out := make([]uint32, whole+len(a)+1)
	for i, x := range a {
		t := uint64(x) << rest
		out[whole+i] |= uint32(t)
		out[whole+i+1] = uint32(t >> limbBits)
	}
	return out
}

func shiftedDown(a []uint32, n int) []uint32 {
	whole, rest := n/limbBits, n%limbBits
	if whole >= len(a) {
		return nil
	}
	out := make([]uint32, len(a)-whole)
	for i := range out {
		t := uint64(limbAt(a, whole+i+1))<<limbBits | uint64(a[whole+i])
		out[i] = uint32(t >> rest)
	}
	return out
}
