package tests

import (
	"math"
	"math/big"
	"slices"
	"testing"

	"loop.example/g00672/impl"
)

var binCounts = []int64{2, 3, 4}

var noBinCounts = []int64{0, 1, 5, 6, -1, -2, -4, 16, 1<<32 + 2, math.MinInt64, math.MaxInt64}

// lastTop is the highest bin of a finite float.
func (f form) lastTop() int64 { return map[int64]int64{32: 17, 64: 131}[f.fm] }

// inBin is a float whose units are that digit in bin b, and 0 elsewhere.
func (f form) inBin(digit int64, b int64) uint64 { return f.scaled(digit, 16*b+f.unit) }

// digit is worked out apart from the program.
func (f form) digit(bits uint64, b int64) int64 {
	if !f.isFinite(bits) || b < 0 || b > 1000 {
		return 0
	}
	n := f.units(bits)
	d := new(big.Int).Rsh(new(big.Int).Abs(n), uint(16*b))
	d.And(d, big.NewInt(65535))
	return d.Int64() * int64(n.Sign())
}

func (f form) top(bits uint64) int64 {
	for b := f.lastTop(); b >= 0; b-- {
		if f.digit(bits, b) != 0 {
			return b
		}
	}
	return -1
}

// binned is what terms must come to, in whatever order, by the chapter's words.
func (f form) binned(k int64, xs []uint64) impl.Binned {
	a := f.accOf(ones(xs...))
	b := impl.Binned{Fm: f.fm, K: k, Top: -1, Sums: make([]int64, k), Terms: a.Terms}
	for _, x := range xs {
		b.Top = max(b.Top, f.top(x))
	}
	for i := range b.Sums {
		for _, x := range xs {
			b.Sums[i] += f.digit(x, b.Top-int64(i))
		}
	}
	return withMarks(b, flagsOf(a))
}

func marksOf(b impl.Binned) [5]bool { return [5]bool{b.Nan, b.Bad, b.Plus, b.Minus, b.AllMinus} }

func withMarks(b impl.Binned, marks [5]bool) impl.Binned {
	b.Nan, b.Bad, b.Plus, b.Minus, b.AllMinus = marks[0], marks[1], marks[2], marks[3], marks[4]
	return b
}

func binIs(a impl.Binned, b impl.Binned) bool {
	return a.Fm == b.Fm && a.K == b.K && a.Top == b.Top && slices.Equal(a.Sums, b.Sums) && a.Terms == b.Terms && marksOf(a) == marksOf(b)
}

// kept is the sum of the bins, in 2 to the 2 Q, as an accumulator has it.
func (f form) kept(b impl.Binned) *big.Int {
	sum := new(big.Int)
	for i, s := range b.Sums {
		if at := b.Top - int64(i); at >= 0 {
			sum.Add(sum, new(big.Int).Lsh(big.NewInt(s), uint(16*at)))
		}
	}
	return sum.Lsh(sum, uint(-f.unit))
}

func (f form) binRounded(mode int64, b impl.Binned) (uint64, int64) {
	return f.accRounded(mode, withFlags(impl.Acc{Fm: f.fm, Terms: b.Terms, Sum: wideOfBig(f.kept(b))}, marksOf(b)))
}

func checkBin(t *testing.T, what string, b impl.Binned, code int64, want impl.Binned) {
	t.Helper()
	if code != impl.AcOk || !binIs(b, want) {
		t.Fatalf("%s: %v, code %d, want %v", what, b, code, want)
	}
	if !impl.BinOk(b) {
		t.Fatalf("%s: %v is not right", what, b)
	}
}

func checkNoBin(t *testing.T, what string, b impl.Binned, code int64, want int64) {
	t.Helper()
	if code != want || !binIs(b, impl.Binned{}) {
		t.Errorf("%s: %v, code %d, want %d", what, b, code, want)
	}
}

func checkBinRound(t *testing.T, f form, b impl.Binned) {
	t.Helper()
	for _, mode := range modes {
		want, told := f.binRounded(mode, b)
		if x, flags, ok := impl.BinRound(b, mode); !ok || x != want || flags != told {
			t.Errorf("mode %d of %v: %x %d %v, want %x %d", mode, b, x, flags, ok, want, told)
		}
	}
}

// intoBins is what the program makes of the terms, one after the other.
func intoBins(t *testing.T, f form, k int64, xs ...uint64) impl.Binned {
	t.Helper()
	b := impl.BinNew(f.fm, k)
	for _, x := range xs {
		c, code := impl.BinAdd(b, x)
		if code != impl.AcOk {
			t.Fatalf("%v takes no %x: %d", b, x, code)
		}
		b = c
	}
	return b
}

func TestTopsAndDigits(t *testing.T) {
	for _, f := range forms {
		l := slices.Concat(f.floats(), f.corners())
		for b := int64(0); b <= f.lastTop(); b++ {
			l = append(l, f.inBin(1, b), f.inBin(-1, b))
			if 16*b+15 < int64(f.precision)+f.greatestE-f.unit {
				l = append(l, f.inBin(1<<15, b), f.inBin(65535, b), f.inBin(-65535, b))
			}
		}
		for _, x := range l {
			top := f.top(x)
			if got := impl.TopOf(f.fm, x); got != top {
				t.Errorf("TopOf %d of %x: %d, want %d", f.fm, x, got, top)
			}
			for _, b := range []int64{-2, -1, 0, 1, top - 5, top - 4, top - 3, top - 2, top - 1, top, top + 1, top + 2, f.lastTop(), f.lastTop() + 1} {
				if got, want := impl.DigitOf(f.fm, x, b), f.digit(x, b); got != want {
					t.Errorf("DigitOf %d of %x, bin %d: %d, want %d", f.fm, x, b, got, want)
				}
			}
			// No float has bits in more bins than these.
			sum := new(big.Int)
			for b := max(0, top-4); b <= top; b++ {
				sum.Add(sum, new(big.Int).Lsh(big.NewInt(impl.DigitOf(f.fm, x, b)), uint(16*b)))
			}
			if f.isFinite(x) && sum.Cmp(f.units(x)) != 0 {
				t.Errorf("%d: the digits of %x are not it", f.fm, x)
			}
		}
	}
}

func TestTopsAndDigitsByTable(t *testing.T) {
	for _, r := range []struct {
		fm    int64
		bits  uint64
		top   int64
		b     int64
		digit int64
	}{
		{32, 0, -1, 0, 0}, {32, 0x80000000, -1, 0, 0}, {64, 0, -1, 0, 0}, {64, 1 << 63, -1, -1, 0},
		{32, 1, 0, 0, 1}, {32, 0x80000001, 0, 0, -1}, {64, 1, 0, 0, 1}, {64, 1<<63 | 1, 0, 0, -1},
		{32, 0xffff, 0, 0, 65535}, {32, 0x10000, 1, 0, 0}, {32, 0x10000, 1, 1, 1}, {32, 0x12345, 1, 0, 0x2345},
		{32, 0x7fffff, 1, 1, 0x7f}, {32, 0x800000, 1, 1, 0x80}, {32, 0x807fffff, 1, 0, -0xffff},
		{32, 0x7f7fffff, 17, 17, 0x1f}, {32, 0x7f7fffff, 17, 16, 0xffff}, {32, 0x7f7fffff, 17, 15, 0xe000}, {32, 0x7f7fffff, 17, 14, 0}, {32, 0x7f7fffff, 17, 18, 0},
		{64, 0x7fefffffffffffff, 131, 131, 3}, {64, 0x7fefffffffffffff, 131, 130, 0xffff}, {64, 0x7fefffffffffffff, 131, 127, 0xe000}, {64, 0xffefffffffffffff, 131, 131, -3}, {64, 0x7fefffffffffffff, 131, 132, 0},
		{64, 0xfffffffffffff, 3, 3, 15}, {64, 0x10000000000000, 3, 3, 16},
		{32, 0x7f800000, -1, 17, 0}, {32, 0xff800000, -1, 16, 0}, {32, 0x7fc00000, -1, 17, 0}, {32, 0x7f800001, -1, 0, 0}, {64, 0x7ff0000000000000, -1, 131, 0}, {64, 0xffffffffffffffff, -1, 0, 0},
		{32, 1 << 32, -1, 0, 0}, {32, 1<<32 | 0x3f800000, -1, 9, 0}, {32, math.MaxUint64, -1, 0, 0},
		{33, 1, -1, 0, 0}, {0, 1, -1, 0, 0}, {-64, 1, -1, 0, 0},
		{32, 0x3f800000, 9, 9, 32}, {32, 0x3f800000, 9, -1, 0}, {32, 0x3f800000, 9, 10, 0}, {32, 0x3f800000, 9, math.MaxInt64, 0}, {32, 0x3f800000, 9, math.MinInt64, 0},
		{32, 0x12345, 1, -1, 0}, {32, 0x12345, 1, math.MinInt64, 0}, {64, 0x12345, 1, -1 << 60, 0}, {64, 0x12345, 1, -1 << 59, 0}, {64, 0x12345, 1, 1 << 60, 0}, {64, 0x12345, 1, 1<<60 + 1, 0},
		{32, 0x3f800000, 9, 1<<60 + 9, 0}, {32, 0x3f800000, 9, 1<<32 + 9, 0}, {64, 0x3ff0000000000000, 67, 67, 4}, {64, 0x3ff0000000000000, 67, 1 << 59, 0},
	} {
		if top := impl.TopOf(r.fm, r.bits); top != r.top {
			t.Errorf("TopOf %d of %x: %d, want %d", r.fm, r.bits, top, r.top)
		}
		if d := impl.DigitOf(r.fm, r.bits, r.b); d != r.digit {
			t.Errorf("DigitOf %d of %x, bin %d: %d, want %d", r.fm, r.bits, r.b, d, r.digit)
		}
	}
	for _, fm := range noFormats {
		if impl.TopOf(fm, 5) != -1 || impl.DigitOf(fm, 5, 0) != 0 {
			t.Errorf("%d is no format", fm)
		}
	}
}

func TestBinNew(t *testing.T) {
	for _, f := range forms {
		for _, k := range binCounts {
			checkBin(t, "BinNew", impl.BinNew(f.fm, k), impl.AcOk, impl.Binned{Fm: f.fm, K: k, Top: -1, Sums: make([]int64, k)})
		}
		for _, k := range noBinCounts {
			checkNoBin(t, "BinNew", impl.BinNew(f.fm, k), 0, 0)
		}
	}
	for _, fm := range noFormats {
		for _, k := range append(noBinCounts, binCounts...) {
			checkNoBin(t, "BinNew", impl.BinNew(fm, k), 0, 0)
		}
	}
}

// sumsOf has x in each of the bins from the top down that is not below 0.
func sumsOf(k int64, top int64, x int64) []int64 {
	l := make([]int64, k)
	for i := range l {
		if int64(i) <= top {
			l[i] = x
		}
	}
	return l
}

// rightBins: such that are right, at the edges of each rule.
func (f form) rightBins() []impl.Binned {
	var l []impl.Binned
	for _, k := range binCounts {
		l = append(l, impl.Binned{Fm: f.fm, K: k, Top: -1, Sums: make([]int64, k)})
		for _, terms := range []int64{1, 2, 1000, impl.MaxTerms - 1, impl.MaxTerms} {
			for _, top := range []int64{-1, 0, 1, 2, 3, 9, f.lastTop() - 1, f.lastTop()} {
				for _, x := range []int64{0, 1, -1, 65535, 65535 * terms, -65535 * terms} {
					l = append(l, impl.Binned{Fm: f.fm, K: k, Top: top, Sums: sumsOf(k, top, x), Terms: terms})
				}
			}
		}
	}
	for i, b := range slices.Clone(l) {
		if b.Terms == 0 {
			continue
		}
		marks := allFlags()[i%16] // none of these is AllMinus
		if !marks[1] || marks[0] {
			l = append(l, withMarks(b, marks))
		}
		if b.Top == -1 {
			l = append(l, withMarks(b, [5]bool{4: true}))
		}
	}
	return l
}

// wrongBins: such that are not right, each for one reason alone.
func (f form) wrongBins() []impl.Binned {
	var l []impl.Binned
	bin := func(k int64, top int64, terms int64, sums ...int64) impl.Binned {
		return impl.Binned{Fm: f.fm, K: k, Top: top, Sums: append(sums, make([]int64, max(0, int(k)-len(sums)))...), Terms: terms}
	}
	add := func(b impl.Binned) { l = append(l, b) }
	for _, fm := range noFormats {
		add(impl.Binned{Fm: fm, K: 2, Top: -1, Sums: []int64{0, 0}})
		add(impl.Binned{Fm: fm, K: 2, Top: 3, Sums: []int64{5, 0}, Terms: 1})
	}
	for _, k := range noBinCounts {
		n := min(max(k, 0), 20)
		add(impl.Binned{Fm: f.fm, K: k, Top: -1, Sums: make([]int64, n)})
		add(impl.Binned{Fm: f.fm, K: k, Top: 9, Sums: make([]int64, n), Terms: 3})
	}
	for _, k := range binCounts {
		for _, n := range []int64{0, 1, k - 1, k + 1, 5, 1000} {
			add(impl.Binned{Fm: f.fm, K: k, Top: -1, Sums: make([]int64, n)})
			add(impl.Binned{Fm: f.fm, K: k, Top: 9, Sums: make([]int64, n), Terms: 1})
		}
		for _, terms := range []int64{-1, -impl.MaxTerms, math.MinInt64, impl.MaxTerms + 1, 2 * impl.MaxTerms, math.MaxInt64} {
			add(bin(k, -1, terms))
		}
		for _, terms := range []int64{impl.MaxTerms + 1, math.MaxInt64} {
			add(bin(k, 9, terms))
		}
		for _, top := range []int64{-2, -3, math.MinInt64, f.lastTop() + 1, f.lastTop() + 2, 1000, 1 << 32, math.MaxInt64} {
			add(bin(k, top, 1))
		}
		for _, terms := range []int64{1, 2, 1000, impl.MaxTerms} {
			far := 65535*terms + 1
			for i := range k {
				for _, x := range []int64{far, -far, math.MaxInt64, math.MinInt64, -math.MaxInt64} {
					b := bin(k, 9, terms)
					b.Sums[i] = x
					add(b)
				}
			}
		}
		for top := int64(-1); top < k-1; top++ {
			for i := top + 1; i < k; i++ {
				for _, x := range []int64{1, -1, 65535} {
					b := bin(k, top, 1)
					b.Sums[i] = x
					add(b)
				}
			}
		}
		for _, top := range []int64{0, 1, 9, f.lastTop()} {
			add(bin(k, top, 0))
			add(withMarks(bin(k, top, 2), [5]bool{4: true}))
		}
		for _, marks := range allFlags() {
			nan, bad, all := marks[0], marks[1], marks[4]
			some := slices.Contains(marks[:4], true)
			switch {
			case bad && !nan && !all:
				add(withMarks(bin(k, -1, 2), marks))
				add(withMarks(bin(k, 9, 2, 7), marks))
			case all && some && (nan || !bad):
				add(withMarks(bin(k, -1, 2), marks))
			}
			if (some || all) && (nan || !bad) && !(all && some) {
				add(withMarks(bin(k, -1, 0), marks))
			}
		}
	}
	return l
}

func TestBinOk(t *testing.T) {
	for _, f := range forms {
		for _, b := range f.rightBins() {
			if !impl.BinOk(b) {
				t.Errorf("%v is right", b)
			}
		}
		for _, b := range f.wrongBins() {
			if impl.BinOk(b) {
				t.Errorf("%v is not right", b)
			}
		}
	}
	if impl.BinOk(impl.Binned{}) {
		t.Error("the zero value is not right")
	}
}

// rightByWords goes through the rules as they are told, one by one.
func (f form) rightByWords(b impl.Binned) bool {
	some := b.Nan || b.Bad || b.Plus || b.Minus
	ok := b.Fm == f.fm && b.K >= 2 && b.K <= 4 && int64(len(b.Sums)) == b.K
	ok = ok && b.Terms >= 0 && b.Terms <= 1000000 && b.Top >= -1 && b.Top <= f.lastTop()
	for i, s := range b.Sums {
		n := new(big.Int).Abs(big.NewInt(s))
		ok = ok && n.Cmp(new(big.Int).Mul(big.NewInt(65535), big.NewInt(b.Terms))) <= 0
		ok = ok && (b.Top >= int64(i) || s == 0)
	}
	ok = ok && (!b.Bad || b.Nan) && (b.Terms != 0 || !some && !b.AllMinus && b.Top == -1)
	return ok && (!b.AllMinus || !some && b.Top == -1)
}

func TestBinOkOfAll(t *testing.T) {
	for _, f := range forms {
		seen := map[bool]int{}
		for _, marks := range allFlags() {
			for _, terms := range []int64{-1, 0, 1, impl.MaxTerms, impl.MaxTerms + 1} {
				for _, top := range []int64{-2, -1, 0, 1, f.lastTop(), f.lastTop() + 1} {
					for _, x := range []int64{0, 1, -1, 65535, -65535, 65536, -65536} {
						for i := range 3 {
							b := withMarks(impl.Binned{Fm: f.fm, K: 3, Top: top, Sums: make([]int64, 3), Terms: terms}, marks)
							b.Sums[i] = x
							want := f.rightByWords(b)
							seen[want]++
							if impl.BinOk(b) != want {
								t.Errorf("%v is right: %v", b, want)
							}
						}
					}
				}
			}
		}
		if seen[true] < 500 || seen[false] < 500 {
			t.Errorf("%d: %v", f.fm, seen)
		}
	}
}

func TestWrongBinsAreRefused(t *testing.T) {
	for _, f := range forms {
		right := impl.BinNew(f.fm, 2)
		for _, b := range append(f.wrongBins(), impl.Binned{}) {
			c, code := impl.BinAdd(b, f.one())
			checkNoBin(t, "BinAdd", c, code, impl.AcBad)
			c, code = impl.BinMerge(b, right)
			checkNoBin(t, "BinMerge", c, code, impl.AcBad)
			c, code = impl.BinMerge(right, b)
			checkNoBin(t, "BinMerge", c, code, impl.AcBad)
			c, code = impl.BinMerge(b, b)
			checkNoBin(t, "BinMerge", c, code, impl.AcBad)
			for _, mode := range append(noModes, modes...) {
				if x, flags, ok := impl.BinRound(b, mode); ok || x != 0 || flags != 0 {
					t.Errorf("mode %d of %v: %x %d %v", mode, b, x, flags, ok)
				}
			}
		}
	}
}

// Each refusal, where all that come behind it would hold, too.
func TestFirstReasonOfNoBins(t *testing.T) {
	for _, f := range forms {
		for _, k := range binCounts {
			none := impl.BinNew(f.fm, k)
			full := impl.Binned{Fm: f.fm, K: k, Top: 9, Sums: sumsOf(k, 9, 65535), Terms: impl.MaxTerms}
			wrong := withMarks(full, [5]bool{1: true})
			for _, no := range f.notFloats() {
				b, code := impl.BinAdd(wrong, no)
				checkNoBin(t, "BinAdd", b, code, impl.AcBad)
				b, code = impl.BinAdd(full, no)
				checkNoBin(t, "BinAdd", b, code, impl.AcFloat)
				b, code = impl.BinAdd(none, no)
				checkNoBin(t, "BinAdd", b, code, impl.AcFloat)
			}
			for _, x := range f.corners() {
				b, code := impl.BinAdd(wrong, x)
				checkNoBin(t, "BinAdd", b, code, impl.AcBad)
				b, code = impl.BinAdd(full, x)
				checkNoBin(t, "BinAdd", b, code, impl.AcFull)
			}
			format := impl.Binned{Fm: 96 - f.fm, K: k, Top: 9, Sums: sumsOf(k, 9, 65535), Terms: impl.MaxTerms}
			other := k%3 + 2
			count := impl.Binned{Fm: f.fm, K: other, Top: 9, Sums: sumsOf(other, 9, 65535), Terms: impl.MaxTerms}
			for _, r := range []struct {
				a, b impl.Binned
				want int64
			}{
				{wrong, format, impl.AcBad}, {wrong, count, impl.AcBad}, {wrong, full, impl.AcBad}, {wrong, none, impl.AcBad},
				{full, format, impl.AcFloat}, {full, count, impl.AcFloat}, {format, count, impl.AcFloat}, {none, format, impl.AcFloat}, {none, count, impl.AcFloat},
				{none, impl.BinNew(96-f.fm, k), impl.AcFloat}, {none, impl.BinNew(f.fm, other), impl.AcFloat},
				{full, full, impl.AcFull}, {full, intoBins(t, f, k, 0), impl.AcFull},
			} {
				b, code := impl.BinMerge(r.a, r.b)
				checkNoBin(t, "BinMerge", b, code, r.want)
				b, code = impl.BinMerge(r.b, r.a)
				checkNoBin(t, "BinMerge turned", b, code, r.want)
			}
		}
	}
}

// A term that raises the top, by one bin and on until nothing of the first one is left.
func TestBinAddRaisesTheTop(t *testing.T) {
	for _, f := range forms {
		for _, k := range binCounts {
			for up := int64(0); up <= k+2; up++ {
				for low := int64(0); low+up <= f.lastTop(); low += 1 + low/2 {
					first, second := f.inBin(3, low), f.inBin(-2, low+up)
					b := intoBins(t, f, k, first)
					want := impl.Binned{Fm: f.fm, K: k, Top: low, Sums: make([]int64, k), Terms: 1}
					want.Sums[0] = 3
					checkBin(t, "one term", b, impl.AcOk, want)
					want = impl.Binned{Fm: f.fm, K: k, Top: low + up, Sums: make([]int64, k), Terms: 2}
					want.Sums[0] = -2
					if up < k {
						want.Sums[up] += 3
					}
					c, code := impl.BinAdd(b, second)
					checkBin(t, "a higher one", c, code, want)
					c, code = impl.BinAdd(intoBins(t, f, k, second), first)
					checkBin(t, "a lower one", c, code, want)
					checkBinRound(t, f, c)
				}
			}
		}
	}
}

// What fell out behind the last bin does not come back, however the terms cancel.
func TestWhatGoesIsGone(t *testing.T) {
	for _, f := range forms {
		for _, k := range binCounts {
			xs := []uint64{f.inBin(1, 1), f.inBin(1, 1+k), f.inBin(-1, 1+k)}
			b := intoBins(t, f, k, xs...)
			checkBin(t, "all", b, impl.AcOk, impl.Binned{Fm: f.fm, K: k, Top: 1 + k, Sums: make([]int64, k), Terms: 3})
			// The top stays where it was, so that what is lower goes on being lost.
			b, code := impl.BinAdd(b, f.inBin(1, 1))
			checkBin(t, "one more", b, code, impl.Binned{Fm: f.fm, K: k, Top: 1 + k, Sums: make([]int64, k), Terms: 4})
			b, code = impl.BinAdd(b, f.inBin(7, 2))
			want := impl.Binned{Fm: f.fm, K: k, Top: 1 + k, Sums: make([]int64, k), Terms: 5}
			want.Sums[k-1] = 7
			checkBin(t, "just high enough", b, code, want)
			if x, flags, ok := impl.BinRound(b, 0); !ok || flags != 0 || x != f.inBin(7, 2) {
				t.Errorf("%d: %x %d", f.fm, x, flags)
			}
		}
	}
}

func TestBinsOfCorners(t *testing.T) {
	for _, f := range forms {
		l := f.corners()
		for _, k := range binCounts {
			for _, x := range l {
				b := intoBins(t, f, k, x)
				checkBin(t, "one term", b, impl.AcOk, f.binned(k, []uint64{x}))
				checkBinRound(t, f, b)
				for _, y := range l {
					c, code := impl.BinAdd(b, y)
					checkBin(t, "two terms", c, code, f.binned(k, []uint64{x, y}))
					checkBinRound(t, f, c)
				}
			}
		}
	}
}

func TestMarksOfBins(t *testing.T) {
	for _, f := range forms {
		minus := f.sign
		for _, r := range []struct {
			xs   []uint64
			top  int64
			want [5]bool // Nan, Bad, Plus, Minus, AllMinus
		}{
			{nil, -1, [5]bool{}},
			{[]uint64{0}, -1, [5]bool{}},
			{[]uint64{minus}, -1, [5]bool{4: true}},
			{[]uint64{minus, minus, minus}, -1, [5]bool{4: true}},
			{[]uint64{minus, 0}, -1, [5]bool{}},
			{[]uint64{0, minus}, -1, [5]bool{}},
			{[]uint64{minus, minus | 1}, 0, [5]bool{}},
			{[]uint64{minus | 1, minus}, 0, [5]bool{}},
			{[]uint64{1, minus | 1, minus}, 0, [5]bool{}},
			{[]uint64{minus, f.inf}, -1, [5]bool{2: true}},
			{[]uint64{minus | f.inf, minus}, -1, [5]bool{3: true}},
			{[]uint64{minus, minus | f.nan}, -1, [5]bool{0: true}},
			{[]uint64{f.nan, minus}, -1, [5]bool{0: true}},
			{[]uint64{f.all}, -1, [5]bool{0: true}},
			{[]uint64{f.inf + 1}, -1, [5]bool{0: true, 1: true}},
			{[]uint64{minus | (f.nan - 1), f.nan}, -1, [5]bool{0: true, 1: true}},
			{[]uint64{f.inf, minus | f.inf}, -1, [5]bool{2: true, 3: true}},
			{[]uint64{f.inf, 0x10000, minus | f.inf, f.nan}, 1, [5]bool{0: true, 2: true, 3: true}},
			{[]uint64{f.inf, f.greatest, minus | f.inf, f.inf + 1}, f.lastTop(), [5]bool{0: true, 1: true, 2: true, 3: true}},
		} {
			for _, k := range binCounts {
				b := intoBins(t, f, k, r.xs...)
				checkBin(t, "terms", b, impl.AcOk, f.binned(k, r.xs))
				if marksOf(b) != r.want || b.Top != r.top || b.Terms != int64(len(r.xs)) {
					t.Errorf("%d: %x has %v, want %v", f.fm, r.xs, b, r.want)
				}
			}
		}
	}
}

// binTerms: terms of one kind, so that each kind of bins comes up often.
func (f form) binTerms(d *dice, n int) []uint64 {
	all, corners := f.floats(), f.corners()
	zeros := []uint64{0, f.sign, f.sign, f.sign, f.sign}
	kind := d.below(7)
	near := d.next() & (f.sign - 1) % f.inf
	var l []uint64
	for range n {
		x := f.near(d, near)
		switch kind {
		case 0:
			x = all[d.below(len(all))]
		case 1:
			x = corners[d.below(len(corners))]
		case 2:
			x = zeros[d.below(len(zeros))]
		case 3:
			x = f.sign
		case 4:
			// The lowest bins, where fewer than K are above 0.
			x = d.next()>>(64-d.below(40))&(1<<40-1)&(f.sign>>4-1) | d.next()&f.sign
		}
		if kind > 4 && d.below(30) == 0 {
			x = all[d.below(len(all))]
		}
		l = append(l, x)
	}
	return l
}

func TestBinsOfAnyTerms(t *testing.T) {
	for _, f := range forms {
		d := &dice{101}
		raised, allMinus := 0, 0
		for i := range 400 {
			k := binCounts[i%3]
			xs := f.binTerms(d, 1+d.below(14))
			b := impl.BinNew(f.fm, k)
			for j, x := range xs {
				c, code := impl.BinAdd(b, x)
				checkBin(t, "terms", c, code, f.binned(k, xs[:j+1]))
				if j > 0 && c.Top > b.Top {
					raised++
				}
				b = c
			}
			checkBinRound(t, f, b)
			if b.AllMinus {
				allMinus++
			}
		}
		if raised < 100 || allMinus < 10 {
			t.Errorf("%d: the terms are too much alike: %d, %d", f.fm, raised, allMinus)
		}
	}
}

func TestBinsOfMaxTerms(t *testing.T) {
	for _, f := range forms {
		for _, k := range binCounts {
			for _, x := range []uint64{0, f.sign, 1, f.one(), f.greatest, f.sign | f.greatest, f.inf, f.nan, f.inf + 1} {
				almost := impl.Binned{Fm: f.fm, K: k, Top: 3, Sums: sumsOf(k, 3, 65535*(impl.MaxTerms-1)), Terms: impl.MaxTerms - 1}
				b, code := impl.BinAdd(almost, x)
				if code != impl.AcOk || b.Terms != impl.MaxTerms || !impl.BinOk(b) {
					t.Errorf("%d: %v and %x: %v %d", f.fm, almost, x, b, code)
				}
				c, code := impl.BinAdd(b, x)
				checkNoBin(t, "BinAdd", c, code, impl.AcFull)
			}
		}
	}
}

func TestMergeBinsToMaxTerms(t *testing.T) {
	for _, f := range forms {
		for _, k := range binCounts {
			for _, n := range []int64{1, 2, 300, impl.MaxTerms / 2, impl.MaxTerms - 1} {
				rest := impl.MaxTerms - n
				a := impl.Binned{Fm: f.fm, K: k, Top: 5, Sums: sumsOf(k, 5, 65535*n), Terms: n}
				b := impl.Binned{Fm: f.fm, K: k, Top: 5, Sums: sumsOf(k, 5, 65535*rest), Terms: rest}
				c, code := impl.BinMerge(a, b)
				checkBin(t, "BinMerge", c, code, impl.Binned{Fm: f.fm, K: k, Top: 5, Sums: sumsOf(k, 5, 65535*impl.MaxTerms), Terms: impl.MaxTerms})
				checkBinRound(t, f, c)
				b.Terms++
				c, code = impl.BinMerge(a, b)
				checkNoBin(t, "BinMerge", c, code, impl.AcFull)
				c, code = impl.BinMerge(b, a)
				checkNoBin(t, "BinMerge", c, code, impl.AcFull)
			}
		}
	}
}

// mergedBins is what two right ones must come to: the greater top, and each bin from it down of both that have it.
func mergedBins(a impl.Binned, b impl.Binned) impl.Binned {
	c := impl.Binned{Fm: a.Fm, K: a.K, Top: max(a.Top, b.Top), Sums: make([]int64, a.K), Terms: a.Terms + b.Terms}
	for i := range c.Sums {
		at := c.Top - int64(i)
		for _, x := range []impl.Binned{a, b} {
			for j, s := range x.Sums {
				if x.Top-int64(j) == at {
					c.Sums[i] += s
				}
			}
		}
	}
	var marks [5]bool
	for i := range 4 {
		marks[i] = marksOf(a)[i] || marksOf(b)[i]
	}
	marks[4] = a.AllMinus && (b.AllMinus || b.Terms == 0) || b.AllMinus && a.Terms == 0
	return withMarks(c, marks)
}

func TestMergeOfRightBins(t *testing.T) {
	for _, f := range forms {
		d := &dice{102}
		l := f.rightBins()
		merged, apart := 0, map[int64]int{}
		for range 9000 {
			a, b := l[d.below(len(l))], l[d.below(len(l))]
			if a.K != b.K || a.Terms+b.Terms > impl.MaxTerms {
				continue
			}
			merged++
			apart[min(5, max(a.Top-b.Top, b.Top-a.Top))]++
			want := mergedBins(a, b)
			c, code := impl.BinMerge(a, b)
			checkBin(t, "BinMerge", c, code, want)
			c, code = impl.BinMerge(b, a)
			checkBin(t, "BinMerge turned", c, code, want)
			checkBinRound(t, f, c)
		}
		if merged < 1000 || len(apart) < 6 {
			t.Errorf("%d: %d %v", f.fm, merged, apart)
		}
	}
}

// Tops that are apart by each number of bins, up to more than K.
func TestMergeOfTopsApart(t *testing.T) {
	for _, f := range forms {
		for _, k := range binCounts {
			for apart := int64(0); apart <= k+2; apart++ {
				for low := int64(-1); low <= 6; low++ {
					a := impl.Binned{Fm: f.fm, K: k, Top: low, Sums: sumsOf(k, low, 0), Terms: 5}
					b := impl.Binned{Fm: f.fm, K: k, Top: low + apart, Sums: sumsOf(k, low+apart, 0), Terms: 7}
					for i := range k {
						if i <= low {
							a.Sums[i] = 10 + i
						}
						if i <= low+apart {
							b.Sums[i] = 100 * (1 + i)
						}
					}
					want := mergedBins(a, b)
					c, code := impl.BinMerge(a, b)
					checkBin(t, "BinMerge", c, code, want)
					c, code = impl.BinMerge(b, a)
					checkBin(t, "BinMerge turned", c, code, want)
				}
			}
		}
	}
}

func TestMergeBinsByTable(t *testing.T) {
	bin := func(top int64, terms int64, sums ...int64) impl.Binned {
		return impl.Binned{Fm: 32, K: int64(len(sums)), Top: top, Sums: sums, Terms: terms}
	}
	for _, r := range []struct{ a, b, want impl.Binned }{
		{bin(9, 1, 3, 4), bin(9, 1, 5, -4), bin(9, 2, 8, 0)},
		{bin(9, 1, 3, 4), bin(10, 1, 5, 6), bin(10, 2, 5, 9)},
		{bin(9, 1, 3, 4), bin(11, 1, 5, 6), bin(11, 2, 5, 6)},
		{bin(9, 1, 3, 4), bin(17, 1, 5, 6), bin(17, 2, 5, 6)},
		{bin(9, 1, 3, 4, 7), bin(11, 1, 5, 6, 8), bin(11, 2, 5, 6, 11)},
		{bin(9, 1, 3, 4, 7), bin(12, 1, 5, 6, 8), bin(12, 2, 5, 6, 8)},
		{bin(9, 1, 3, 4, 7, 2), bin(12, 1, 5, 6, 8, 9), bin(12, 2, 5, 6, 8, 12)},
		{bin(0, 1, 3, 0, 0, 0), bin(2, 1, 5, 6, 8, 0), bin(2, 2, 5, 6, 11, 0)},
		{bin(-1, 1, 0, 0), bin(0, 1, 5, 0), bin(0, 2, 5, 0)},
		{bin(-1, 0, 0, 0), bin(-1, 0, 0, 0), bin(-1, 0, 0, 0)},
		{bin(-1, 0, 0, 0), bin(9, 4, -3, 4), bin(9, 4, -3, 4)},
	} {
		c, code := impl.BinMerge(r.a, r.b)
		checkBin(t, "BinMerge", c, code, r.want)
		c, code = impl.BinMerge(r.b, r.a)
		checkBin(t, "BinMerge turned", c, code, r.want)
	}
}

func TestMergeBinsWithNoTerms(t *testing.T) {
	for _, f := range forms {
		l := f.rightBins()
		for _, k := range binCounts {
			l = append(l, intoBins(t, f, k, f.sign), intoBins(t, f, k, f.sign, f.sign), intoBins(t, f, k, 0), intoBins(t, f, k, f.inf, f.greatest))
		}
		for _, b := range l {
			none := impl.BinNew(f.fm, b.K)
			c, code := impl.BinMerge(b, none)
			checkBin(t, "with none", c, code, b)
			c, code = impl.BinMerge(none, b)
			checkBin(t, "none with", c, code, b)
		}
	}
}

func TestBinRoundOfRightOnes(t *testing.T) {
	for _, f := range forms {
		for _, b := range f.rightBins() {
			checkBinRound(t, f, b)
			for _, mode := range noModes {
				if x, flags, ok := impl.BinRound(b, mode); ok || x != 0 || flags != 0 {
					t.Errorf("mode %d of %v: %x %d %v", mode, b, x, flags, ok)
				}
			}
		}
	}
}

func TestBinRoundByTable(t *testing.T) {
	for _, f := range forms {
		minus, last := f.sign, f.lastTop()
		same := func(x uint64) [6]uint64 { return [6]uint64{x, x, x, x, x, x} }
		bin := func(top int64, marks [5]bool, sums ...int64) impl.Binned {
			return withMarks(impl.Binned{Fm: f.fm, K: int64(len(sums)), Top: top, Sums: sums, Terms: impl.MaxTerms}, marks)
		}
		// So many in bin 9, beside 2 to the P of them, where every other one is a float.
		beside := func(sign int64, n int64) impl.Binned {
			if f.fm == 32 {
				return bin(10, [5]bool{}, sign*256, sign*n)
			}
			return bin(12, [5]bool{}, sign*32, 0, 0, sign*n)
		}
		wide := f.scaled(1, int64(f.precision)+16*9+f.unit)
		for _, r := range []struct {
			name  string
			b     impl.Binned
			want  [6]uint64 // RmEven, RmZero, RmUp, RmDown, RmAway, RmTies
			flags int64
		}{
			{"none", impl.BinNew(f.fm, 3), same(0), 0},
			{"zero", bin(-1, [5]bool{}, 0, 0), [6]uint64{3: minus}, 0},
			{"zeros below 0", bin(-1, [5]bool{4: true}, 0, 0), same(minus), 0},
			{"cancelled in each bin", bin(9, [5]bool{}, 0, 0), [6]uint64{3: minus}, 0},
			{"cancelled between bins", bin(9, [5]bool{}, 1, -65536), [6]uint64{3: minus}, 0},
			{"cancelled to less than its top", bin(9, [5]bool{}, 1, -65535), same(f.inBin(1, 8)), 0},
			{"cancelled to below 0", bin(9, [5]bool{}, 1, -65537), same(minus | f.inBin(1, 8)), 0},
			{"the least", bin(0, [5]bool{}, 1, 0, 0, 0), same(1), 0},
			{"the least below 0", bin(0, [5]bool{}, -1, 0), same(minus | 1), 0},
			{"carried", bin(0, [5]bool{}, 65535*256, 0), same(f.scaled(65535*256, f.unit)), 0},
			{"just beyond", beside(1, 2), same(wide + 1), 0},
			{"halfway", beside(1, 1), [6]uint64{wide, wide, wide + 1, wide, wide + 1, wide}, 1},
			{"halfway from an odd one", beside(1, 3), [6]uint64{wide + 2, wide + 1, wide + 2, wide + 1, wide + 2, wide + 1}, 1},
			{"halfway below 0", beside(-1, 1), [6]uint64{minus | wide, minus | wide, minus | wide, minus | (wide + 1), minus | (wide + 1), minus | wide}, 1},
			{"infinity", bin(9, [5]bool{2: true}, 5, 5), same(f.inf), 0},
			{"infinity below 0", bin(9, [5]bool{3: true}, 5, 5), same(minus | f.inf), 0},
			{"both", bin(9, [5]bool{2: true, 3: true}, 5, 5), same(f.nan), 8},
			{"a NaN", bin(9, [5]bool{0: true}, 5, 5), same(f.nan), 0},
			{"a NaN and infinity", bin(9, [5]bool{0: true, 3: true}, 5, 5), same(f.nan), 0},
			{"a NaN and both", bin(9, [5]bool{0: true, 2: true, 3: true}, 5, 5), same(f.nan), 8},
			{"invalid", bin(9, [5]bool{0: true, 1: true}, 5, 5), same(f.nan), 8},
			{"invalid and infinity", bin(-1, [5]bool{0: true, 1: true, 2: true}, 0, 0), same(f.nan), 8},
			{"beyond", bin(last, [5]bool{}, 65535, 0), [6]uint64{f.inf, f.greatest, f.inf, f.greatest, f.inf, f.inf}, 5},
			{"beyond below 0", bin(last, [5]bool{}, -65535*impl.MaxTerms, 0), [6]uint64{minus | f.inf, minus | f.greatest, minus | f.greatest, minus | f.inf, minus | f.inf, minus | f.inf}, 5},
		} {
			for _, mode := range modes {
				x, flags, ok := impl.BinRound(r.b, mode)
				if !ok || x != r.want[mode] || flags != r.flags {
					t.Errorf("%d mode %d, %s: %x %d %v, want %x %d", f.fm, mode, r.name, x, flags, ok, r.want[mode], r.flags)
				}
			}
		}
	}
}

func TestBinSum(t *testing.T) {
	for _, f := range forms {
		d := &dice{103}
		for i := range 240 {
			n := d.below(12)
			if i%40 == 0 {
				n = impl.MaxVector
			}
			xs := f.binTerms(d, n)
			mode, k := modes[i%6], binCounts[d.below(3)]
			want, told := f.binRounded(mode, f.binned(k, xs))
			checkRes(t, "BinSum", f, mode, impl.BinSum(f.fm, mode, k, xs), impl.Res{Bits: want, Flags: told})
		}
	}
}

func TestBinSumByTable(t *testing.T) {
	for _, f := range forms {
		one, minus := f.one(), f.sign
		far := f.scaled(1, 100)
		for _, r := range []struct {
			name string
			got  impl.Res
			want impl.Res
		}{
			{"none", impl.BinSum(f.fm, 0, 2, nil), impl.Res{}},
			{"none, down", impl.BinSum(f.fm, impl.RmDown, 4, []uint64{}), impl.Res{}},
			{"a zero, down", impl.BinSum(f.fm, impl.RmDown, 2, []uint64{0}), impl.Res{Bits: minus}},
			{"zeros below 0", impl.BinSum(f.fm, 0, 3, filled(3, minus)), impl.Res{Bits: minus}},
			{"what is not kept", impl.BinSum(f.fm, 0, 4, []uint64{far, one, minus | far}), impl.Res{}},
			{"what is kept", impl.BinSum(f.fm, 0, 2, []uint64{f.scaled(1, 10), one, f.scaled(-1, 10)}), impl.Res{Bits: one}},
			{"many", impl.BinSum(f.fm, 0, 2, filled(impl.MaxVector, minus|one)), impl.Res{Bits: f.scaled(-impl.MaxVector, 0)}},
			{"beyond", impl.BinSum(f.fm, 0, 2, filled(impl.MaxVector, f.greatest)), impl.Res{Bits: f.inf, Flags: 5}},
			{"invalid", impl.BinSum(f.fm, 0, 2, []uint64{f.inf, minus | f.inf}), impl.Res{Bits: f.nan, Flags: 8}},
			{"a quiet NaN", impl.BinSum(f.fm, 0, 2, []uint64{f.inf, minus | f.nan}), impl.Res{Bits: f.nan}},
			{"infinity", impl.BinSum(f.fm, 0, 2, []uint64{minus | f.inf, f.greatest}), impl.Res{Bits: minus | f.inf}},
		} {
			if r.got != r.want {
				t.Errorf("%d, %s: %x, want %x", f.fm, r.name, r.got, r.want)
			}
		}
	}
}

// Each refusal, where all that come behind it would hold, too.
func TestFirstReasonOfNoBinSum(t *testing.T) {
	const no = 1 << 32 // no float of format 32
	few, many, wrong := filled(2, 0), filled(impl.MaxVector+1, no), []uint64{0, no}
	for _, r := range []struct {
		fm, mode, k int64
		xs          []uint64
		want        int64
	}{
		{33, 0, 2, nil, impl.ReForm}, {33, 0, 2, many, impl.ReForm}, {33, 0, 2, wrong, impl.ReForm}, {33, 6, 5, few, impl.ReForm},
		{32, 6, 2, nil, impl.ReForm}, {32, -1, 3, many, impl.ReForm}, {64, 6, 4, many, impl.ReForm}, {32, 6, 2, wrong, impl.ReForm},
		{32, 0, 1, nil, impl.ReForm}, {32, 0, 5, many, impl.ReForm}, {64, 0, 5, many, impl.ReForm}, {32, 0, 0, wrong, impl.ReForm}, {64, 0, -2, few, impl.ReForm},
		{32, 0, 2, many, impl.ReMany}, {64, 5, 4, many, impl.ReMany}, {32, 0, 3, filled(impl.MaxVector+1, 0), impl.ReMany},
		{32, 0, 2, wrong, impl.ReFloat}, {32, 5, 4, []uint64{no, 0}, impl.ReFloat}, {32, 0, 3, filled(impl.MaxVector, no), impl.ReFloat},
		{32, 0, 2, nil, impl.ReOk}, {64, 0, 3, few, impl.ReOk}, {64, 5, 4, filled(impl.MaxVector, 0), impl.ReOk},
	} {
		if got := impl.BinSum(r.fm, r.mode, r.k, r.xs); got != (impl.Res{Code: r.want}) {
			t.Errorf("%d mode %d, %d bins of %d: %v, want %d", r.fm, r.mode, r.k, len(r.xs), got, r.want)
		}
	}
	l := filled(3, 0x3f800000)
	for _, f := range forms {
		for _, k := range noBinCounts {
			checkRes(t, "BinSum", f, 0, impl.BinSum(f.fm, 0, k, l), impl.Res{Code: impl.ReForm})
		}
		for _, mode := range noModes {
			checkRes(t, "BinSum", f, mode, impl.BinSum(f.fm, mode, 2, l), impl.Res{Code: impl.ReForm})
		}
	}
	for _, fm := range noFormats {
		if got := impl.BinSum(fm, 0, 2, l); got != (impl.Res{Code: impl.ReForm}) {
			t.Errorf("%d is no format: %v", fm, got)
		}
	}
}

// sharedBins parts the terms among bins and merges these, whichever come first.
func sharedBins(t *testing.T, d *dice, f form, k int64, xs []uint64) impl.Binned {
	t.Helper()
	parts := make([]impl.Binned, 1+d.below(6))
	for i := range parts {
		parts[i] = impl.BinNew(f.fm, k)
	}
	for _, x := range xs {
		i := d.below(len(parts))
		b, code := impl.BinAdd(parts[i], x)
		if code != impl.AcOk {
			t.Fatal(code)
		}
		parts[i] = b
	}
	for len(parts) > 1 {
		i := d.below(len(parts) - 1)
		a, code := impl.BinMerge(parts[i], parts[i+1])
		if code != impl.AcOk {
			t.Fatal(code)
		}
		parts[i] = a
		parts = slices.Delete(parts, i+1, i+2)
	}
	return parts[0]
}

func TestPromise10InWhateverOrder(t *testing.T) {
	for _, f := range forms {
		d := &dice{104}
		for i := range 120 {
			n := 1 + d.below(25)
			if i%30 == 0 {
				n = impl.MaxVector
			}
			xs := f.binTerms(d, n)
			k := binCounts[i%3]
			b := intoBins(t, f, k, xs...)
			checkBin(t, "terms", b, impl.AcOk, f.binned(k, xs))
			rising := slices.Clone(xs)
			slices.SortFunc(rising, func(x uint64, y uint64) int { return int(f.top(x) - f.top(y)) })
			falling := slices.Clone(rising)
			slices.Reverse(falling)
			for _, l := range [][]uint64{rising, falling, shuffledBy(d, xs), shuffledBy(d, xs), shuffledBy(d, xs)} {
				checkBin(t, "shuffled", intoBins(t, f, k, l...), impl.AcOk, b)
				checkBin(t, "shared out", sharedBins(t, d, f, k, l), impl.AcOk, b)
				mode := modes[d.below(6)]
				checkRes(t, "BinSum", f, mode, impl.BinSum(f.fm, mode, k, l), impl.BinSum(f.fm, mode, k, xs))
			}
		}
	}
}

func TestPromise10NotKept(t *testing.T) {
	for _, f := range forms {
		d := &dice{105}
		lost, all := 0, 0
		for i := range 300 {
			n := 1 + d.below(25)
			if i%50 == 0 {
				n = impl.MaxVector
			}
			xs := f.finites(d, n)
			k := binCounts[i%3]
			b := intoBins(t, f, k, xs...)
			kept := new(big.Int).Rsh(f.kept(b), uint(-f.unit))
			rest := new(big.Int).Sub(f.exactSum(xs), kept)
			if rest.Sign() == 0 {
				all++
				continue
			}
			lost++
			low := b.Top - k + 1
			if low < 0 || rest.CmpAbs(new(big.Int).Lsh(big.NewInt(int64(n)), uint(16*low))) >= 0 {
				t.Errorf("%d: %d terms lose %x below bin %d", f.fm, n, rest, low)
			}
		}
		if lost < 50 || all < 50 {
			t.Errorf("%d: the terms are too much alike: %d, %d", f.fm, lost, all)
		}
	}
}

// roomyBin gives the same bins with marked spare room behind the sums.
func roomyBin(b impl.Binned) impl.Binned {
	room := append(slices.Clone(b.Sums), spareMark, spareMark, spareMark, spareMark)
	b.Sums = room[:len(b.Sums)]
	return b
}

func roomOf(b impl.Binned) []int64 { return b.Sums[:cap(b.Sums)] }

func TestBinsStayAsTheyWere(t *testing.T) {
	for _, f := range forms {
		for _, k := range binCounts {
			for _, top := range []int64{-1, 0, 5, 6, 7, 12} {
				a := roomyBin(impl.Binned{Fm: f.fm, K: k, Top: 6, Sums: sumsOf(k, 6, 44), Terms: 7})
				b := roomyBin(impl.Binned{Fm: f.fm, K: k, Top: top, Sums: sumsOf(k, top, -3), Terms: 9})
				was, were := slices.Clone(roomOf(a)), slices.Clone(roomOf(b))
				for i, call := range []func() impl.Binned{
					func() impl.Binned { c, _ := impl.BinAdd(a, 0); return c },
					func() impl.Binned { c, _ := impl.BinAdd(a, f.inBin(3, 6)); return c },
					func() impl.Binned { c, _ := impl.BinAdd(a, f.greatest); return c },
					func() impl.Binned { c, _ := impl.BinAdd(a, f.nan); return c },
					func() impl.Binned { c, _ := impl.BinMerge(a, b); return c },
					func() impl.Binned { c, _ := impl.BinMerge(b, a); return c },
					func() impl.Binned { c, _ := impl.BinMerge(a, impl.BinNew(f.fm, k)); return c },
					func() impl.Binned { return impl.BinNew(f.fm, k) },
					func() impl.Binned { impl.BinOk(a); impl.BinRound(a, impl.RmUp); return impl.BinNew(f.fm, k) },
				} {
					c, again := call(), call()
					if !binIs(c, again) || len(c.Sums) == 0 {
						t.Errorf("call %d is another one the second time", i)
					}
					kept := slices.Clone(again.Sums)
					for j := range roomOf(c) {
						roomOf(c)[j] = 99
					}
					if !slices.Equal(roomOf(a), was) || !slices.Equal(roomOf(b), were) {
						t.Errorf("call %d wrote into an argument, or shares its memory", i)
					}
					if !slices.Equal(again.Sums, kept) {
						t.Errorf("two answers of call %d share memory", i)
					}
				}
			}
		}
	}
}

func TestBinSumLeavesTheVectorAlone(t *testing.T) {
	for _, f := range forms {
		d := &dice{106}
		for _, n := range []int{0, 1, 7, impl.MaxVector, impl.MaxVector + 1} {
			room := append(f.finites(d, n), filled(50, spareMark)...)
			was := slices.Clone(room)
			for _, mode := range []int64{impl.RmEven, impl.RmDown, 6} {
				if impl.BinSum(f.fm, mode, 3, room[:n]) != impl.BinSum(f.fm, mode, 3, room[:n]) {
					t.Error("BinSum is another one the second time")
				}
			}
			if !slices.Equal(room, was) {
				t.Errorf("%d: something was written into a vector of %d", f.fm, n)
			}
		}
	}
}
