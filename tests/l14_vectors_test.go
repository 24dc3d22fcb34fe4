package tests

import (
	"encoding/binary"
	"encoding/hex"
	"hash/crc32"
	"math"
	"slices"
	"testing"

	"loop.example/g00672/impl"
)

// sealed puts the CRC-32 of zip behind a body, whatever that is.
func sealed(body []byte) string {
	return string(binary.BigEndian.AppendUint32(slices.Clone(body), crc32.ChecksumIEEE(body)))
}

// body is what stands ahead of the CRC, with a count of its own; it asks for nothing that the chapter asks for.
func (f form) body(count int, xs []uint64) []byte {
	l := binary.BigEndian.AppendUint16([]byte{'V', byte(f.fm)}, uint16(count))
	for _, x := range xs {
		if f.fm == 32 {
			l = binary.BigEndian.AppendUint32(l, uint32(x))
		} else {
			l = binary.BigEndian.AppendUint64(l, x)
		}
	}
	return l
}

func (f form) sealedVector(xs []uint64) string { return sealed(f.body(len(xs), xs)) }

// checkVector holds the bytes against those made apart from the program, and what is read from them against the floats.
func checkVector(t *testing.T, f form, xs []uint64) {
	t.Helper()
	s := impl.VectorBytes(f.fm, xs)
	if s != f.sealedVector(xs) {
		t.Errorf("%d: %d floats: %x, want %x", f.fm, len(xs), s, f.sealedVector(xs))
	}
	checkReadVector(t, s, f.fm, xs)
}

func checkReadVector(t *testing.T, s string, fm int64, xs []uint64) {
	t.Helper()
	got, ys, ok := impl.ReadVector(s)
	if !ok || got != fm || !slices.Equal(ys, xs) {
		t.Errorf("%x: %d, %x, %v; want %d, %x", s, got, ys, ok, fm, xs)
	}
}

func checkNoVector(t *testing.T, what string, s string) {
	t.Helper()
	if fm, xs, ok := impl.ReadVector(s); ok || fm != 0 || len(xs) != 0 {
		t.Errorf("%s: %x: %d, %x, %v; want none", what, s, fm, xs, ok)
	}
}

// The CRCs here were reckoned by another program than these tests.
func TestVectorsByHand(t *testing.T) {
	for _, r := range []struct {
		fm   int64
		xs   []uint64
		want string
	}{
		{32, nil, "56200000f76fc982"},
		{64, nil, "56400000bfb802a2"},
		{32, []uint64{0x3f800000}, "562000013f8000004dcbc673"},
		{64, []uint64{0x3ff0000000000000}, "564000013ff000000000000051334f27"},
		{32, []uint64{0x01020304}, "562000010102030493ce11d5"},
		{64, []uint64{0x0102030405060708, 0x1112131415161718}, "56400002010203040506070811121314151617186d298371"},
		{32, []uint64{0x80000000, 0x7fc00001, 0xff800001}, "56200003800000007fc00001ff800001ee81cf85"},
		{64, []uint64{0x8000000000000000, 0x7ff8000000000001, 0xfff0000000000001}, "5640000380000000000000007ff8000000000001fff0000000000001dd8c2d42"},
	} {
		if s := impl.VectorBytes(r.fm, r.xs); hex.EncodeToString([]byte(s)) != r.want {
			t.Errorf("%d, %x: %x, want %s", r.fm, r.xs, s, r.want)
		}
		s, err := hex.DecodeString(r.want)
		if err != nil {
			t.Fatal(err)
		}
		checkReadVector(t, string(s), r.fm, r.xs)
	}
}

func TestPromise14VectorsComeBack(t *testing.T) {
	for _, f := range forms {
		d := &dice{151}
		corners, all := f.corners(), f.floats()
		checkVector(t, f, nil)
		checkVector(t, f, corners)
		for _, x := range all[:500] {
			checkVector(t, f, []uint64{x})
		}
		for _, n := range []int{0, 1, 2, 3, 63, 64, 127, 128, 254, 255, 256, 257, impl.MaxVector - 1, impl.MaxVector} {
			for _, x := range corners {
				checkVector(t, f, filled(n, x))
			}
			for range 20 {
				var xs []uint64
				for range n {
					xs = append(xs, all[d.below(len(all))])
				}
				checkVector(t, f, xs)
			}
		}
	}
}

// Two vectors that are unlike, be it by a bit, a length or a format, have unlike bytes.
func TestPromise14VectorsAreToldApart(t *testing.T) {
	seen := map[string]bool{}
	vectors := 0
	for _, f := range forms {
		for _, xs := range [][]uint64{nil, {0}, {f.sign}, {0, 0}, {0, f.sign}, {f.sign, 0}, {1}, {1, 0}, {0, 1}, {f.nan}, {f.nan + 1}, {f.inf + 1}, filled(impl.MaxVector-1, 0), filled(impl.MaxVector, 0)} {
			vectors++
			seen[impl.VectorBytes(f.fm, xs)] = true
		}
	}
	if len(seen) != vectors || seen[""] {
		t.Errorf("%d vectors have %d texts", vectors, len(seen))
	}
}

func TestVectorBytesRefuses(t *testing.T) {
	refused := func(what string, fm int64, xs []uint64) {
		t.Helper()
		if s := impl.VectorBytes(fm, xs); s != "" {
			t.Errorf("%s: %d, %d numbers: %x", what, fm, len(xs), s)
		}
	}
	for _, fm := range noFormats {
		for _, xs := range [][]uint64{nil, {}, {0}, {0x3f800000}, filled(impl.MaxVector, 0), filled(impl.MaxVector+1, 0)} {
			refused("no format", fm, xs)
		}
	}
	for _, f := range forms {
		for _, n := range []int{impl.MaxVector + 1, impl.MaxVector + 2, 512, 65535, 65536, 65537, 100000} {
			refused("too many", f.fm, make([]uint64, n))
		}
		for _, no := range f.notFloats() {
			for _, n := range []int{1, 2, 7, impl.MaxVector} {
				for _, p := range []int{0, n / 2, n - 1} {
					xs := filled(n, f.one())
					xs[p] = no
					refused("no float", f.fm, xs)
				}
			}
		}
	}
}

// Each byte turned in each of its bits, in all of them, and in some; of a short vector to every other byte.
func TestPromise14NoVectorWithAByteTurned(t *testing.T) {
	for _, f := range forms {
		d := &dice{152}
		corners := f.corners()
		for _, n := range []int{0, 1, 2, 3, 9, 255, 256, impl.MaxVector} {
			var xs []uint64
			for range n {
				xs = append(xs, corners[d.below(len(corners))])
			}
			was := []byte(impl.VectorBytes(f.fm, xs))
			for i := range was {
				turns := []byte{1, 2, 4, 8, 16, 32, 64, 128, 255, byte(1 + d.below(255))}
				if n < 4 {
					turns = nil
					for turn := 1; turn < 256; turn++ {
						turns = append(turns, byte(turn))
					}
				}
				for _, turn := range turns {
					s := slices.Clone(was)
					s[i] ^= turn
					checkNoVector(t, "a byte turned", string(s))
				}
			}
			checkReadVector(t, string(was), f.fm, xs)
		}
	}
}

func TestReadVectorOfTooFewOrTooManyBytes(t *testing.T) {
	for _, f := range forms {
		for _, n := range []int{0, 1, 2, 5, 256, impl.MaxVector} {
			s := f.sealedVector(filled(n, f.one()))
			checkReadVector(t, s, f.fm, filled(n, f.one()))
			for i := range min(len(s), 30) {
				checkNoVector(t, "too few", s[:i])
				checkNoVector(t, "too few at the end", s[:len(s)-1-i])
				checkNoVector(t, "too few at the start", s[i+1:])
			}
			for _, more := range []string{"\x00", "\xff", "V", s, "\x00\x00\x00\x00", "\x00\x00\x00\x00\x00\x00\x00\x00", string(make([]byte, 100000))} {
				checkNoVector(t, "too many", s+more)
				checkNoVector(t, "too many at the start", more+s)
				checkNoVector(t, "too many, and the CRC is right", sealed([]byte(s+more)))
				checkNoVector(t, "too many ahead of a right CRC", sealed(append(f.body(n, filled(n, f.one())), more...)))
			}
		}
	}
	for a := range 256 {
		checkNoVector(t, "one byte", string([]byte{byte(a)}))
		for b := range 256 {
			checkNoVector(t, "two bytes", string([]byte{byte(a), byte(b)}))
		}
	}
	for n := range 9 {
		checkNoVector(t, "noughts", string(make([]byte, n)))
		checkNoVector(t, "noughts, and the CRC is right", sealed(make([]byte, n)))
	}
}

// What is not as the chapter says, with the CRC that is right for it.
func TestReadVectorOfARightCRC(t *testing.T) {
	for _, f := range forms {
		for _, n := range []int{0, 1, 2, 7, 255, 256, impl.MaxVector} {
			xs := filled(n, f.one())
			right := f.body(n, xs)
			checkReadVector(t, sealed(right), f.fm, xs)
			for b := range 256 {
				l := slices.Clone(right)
				if l[0] = byte(b); b != 'V' {
					checkNoVector(t, "another first byte", sealed(l))
				}
				l = slices.Clone(right)
				if l[1] = byte(b); b != 32 && b != 64 {
					checkNoVector(t, "a format's byte that is none", sealed(l))
				}
			}
			for _, count := range []int{n - 1, n + 1, 2 * n, n / 2, n << 8, n ^ 256, n ^ 512, 65535, 0, impl.MaxVector, impl.MaxVector + 1} {
				if count != n {
					checkNoVector(t, "a count that is not that of the floats", sealed(f.body(count, xs)))
				}
			}
			if n > 0 {
				l := slices.Clone(right)
				l[1] = byte(96 - f.fm)
				checkNoVector(t, "the other format", sealed(l))
				l[2], l[3] = byte(n>>8), byte(n)
				checkNoVector(t, "the other format, as long", sealed(l[:len(l)-1]))
			}
			for _, l := range [][]byte{right[:len(right)-1], right[1:], append(slices.Clone(right), 0)} {
				checkNoVector(t, "a byte too few or too many", sealed(l))
			}
		}
		for _, n := range []int{impl.MaxVector + 1, 302, 400, 512, 556, 65535} {
			checkNoVector(t, "a count above MaxVector", f.sealedVector(make([]uint64, n)))
		}
		for _, n := range []int{65536, 65537, 65536 + 20} {
			checkNoVector(t, "a count that comes round", sealed(f.body(n, make([]uint64, n))))
		}
	}
}

func TestReadVectorOfAWrongCRC(t *testing.T) {
	for _, f := range forms {
		for _, xs := range [][]uint64{nil, {0}, {f.one()}, f.corners()} {
			body := f.body(len(xs), xs)
			crc := crc32.ChecksumIEEE(body)
			for _, wrong := range []uint32{0, ^crc, crc + 1, crc - 1, crc ^ 1<<31, crc>>24 | crc>>8&0xff00 | crc<<8&0xff0000 | crc<<24, crc<<8 | crc>>24, crc32.Checksum(body, crc32.MakeTable(crc32.Castagnoli)), crc32.ChecksumIEEE(body[1:]), crc32.ChecksumIEEE(body[4:]), math.MaxUint32} {
				if wrong == crc {
					t.Fatal("this one is right")
				}
				checkNoVector(t, "a wrong CRC", string(binary.BigEndian.AppendUint32(slices.Clone(body), wrong)))
			}
		}
	}
}

func TestReadVectorOfAnyBytes(t *testing.T) {
	d := &dice{153}
	read := 0
	for range 20000 {
		l := []byte{'V', []byte{32, 64}[d.below(2)], 0, byte(d.below(4))}
		for range 4 * d.below(8) {
			l = append(l, byte(d.next()))
		}
		if d.below(20) == 0 {
			l[d.below(4)] = byte(d.next())
		}
		s := sealed(l)
		size := int(l[1]) / 8
		if l[0] != 'V' || l[1] != 32 && l[1] != 64 || len(l) != 4+size*(int(l[2])<<8+int(l[3])) {
			checkNoVector(t, "any bytes", s)
			continue
		}
		read++
		fm, xs, ok := impl.ReadVector(s)
		if !ok || fm != int64(l[1]) || impl.VectorBytes(fm, xs) != s {
			t.Errorf("%x: %d, %x, %v", s, fm, xs, ok)
		}
	}
	if read < 1000 {
		t.Errorf("only %d are vectors", read)
	}
}

// takenOut is the shuffle by the words of the chapter.
func takenOut(xs []uint64, picks []int64) []uint64 {
	var out []uint64
	for i := 0; len(xs) > 0; i++ {
		p := 0
		if i < len(picks) {
			p = placeOf(picks[i], int64(len(xs)))
		}
		out = append(out, xs[p])
		xs = slices.Concat(xs[:p], xs[p+1:])
	}
	return out
}

// checkShuffled holds the order against the words, and promise 14: each as often as it was.
func checkShuffled(t *testing.T, xs []uint64, picks []int64) {
	t.Helper()
	got := impl.Shuffled(xs, picks)
	if !slices.Equal(got, takenOut(xs, picks)) {
		t.Errorf("%d by %d picks: %x, want %x", len(xs), len(picks), got, takenOut(xs, picks))
	}
	if !slices.Equal(slices.Sorted(slices.Values(got)), slices.Sorted(slices.Values(xs))) {
		t.Errorf("%d by %d picks: %x is another set of floats than %x", len(xs), len(picks), got, xs)
	}
}

func TestShuffledByTable(t *testing.T) {
	xs := []uint64{10, 20, 30, 40}
	for _, r := range []struct {
		picks []int64
		want  []uint64
	}{
		{nil, []uint64{10, 20, 30, 40}},
		{[]int64{0, 0, 0, 0}, []uint64{10, 20, 30, 40}},
		{[]int64{3, 2, 1, 0}, []uint64{40, 30, 20, 10}},
		{[]int64{3}, []uint64{40, 10, 20, 30}},
		{[]int64{4}, []uint64{10, 20, 30, 40}},
		{[]int64{5, 5, 5, 5}, []uint64{20, 40, 30, 10}},
		{[]int64{-1}, []uint64{40, 10, 20, 30}},
		{[]int64{-4, -3, -2, -1}, []uint64{10, 20, 30, 40}},
		{[]int64{-5, -5}, []uint64{40, 20, 10, 30}},
		{[]int64{2, 2, 2, 2}, []uint64{30, 40, 10, 20}},
		{[]int64{2, 2, 1, 0, 9, 9, 9}, []uint64{30, 40, 20, 10}},
		// The least one is -2 by 3, and a whole number of fours and of twos; the greatest one is 3 by 4, 1 by 3 and 1 by 2.
		{[]int64{math.MinInt64, math.MinInt64, math.MinInt64}, []uint64{10, 30, 20, 40}},
		{[]int64{math.MaxInt64, math.MaxInt64, math.MaxInt64}, []uint64{40, 20, 30, 10}},
	} {
		if got := impl.Shuffled(xs, r.picks); !slices.Equal(got, r.want) {
			t.Errorf("by %v: %v, want %v", r.picks, got, r.want)
		}
		checkShuffled(t, xs, r.picks)
	}
}

func TestShuffledOfFew(t *testing.T) {
	for _, picks := range [][]int64{nil, {}, {0}, {1}, {-1}, {7, 7}, {math.MinInt64}, {math.MaxInt64}} {
		for _, xs := range [][]uint64{nil, {}} {
			if got := impl.Shuffled(xs, picks); len(got) != 0 {
				t.Errorf("none by %v: %v", picks, got)
			}
		}
		for _, x := range []uint64{0, 1, 0x3f800000, 1 << 32, math.MaxUint64} {
			if got := impl.Shuffled([]uint64{x}, picks); !slices.Equal(got, []uint64{x}) {
				t.Errorf("%x by %v: %x", x, picks, got)
			}
		}
	}
}

func TestPromise14ShuffledHasAllOfThem(t *testing.T) {
	for _, f := range forms {
		d := &dice{154}
		corners := f.corners()
		for i := range 400 {
			n := d.below(50)
			var xs []uint64
			for range n {
				xs = append(xs, corners[d.below(len(corners))])
			}
			checkShuffled(t, xs, anyPicks(d, []int{0, n / 2, max(0, n-1), n, n + 1, n + 30}[i%6]))
		}
		for _, n := range []int{255, 256, impl.MaxVector - 1, impl.MaxVector} {
			for _, picks := range [][]int64{nil, anyPicks(d, n/3), anyPicks(d, n), anyPicks(d, 2*n), slices.Repeat([]int64{-1}, n), anyPicks(d, impl.MaxPicks+1)} {
				checkShuffled(t, f.finites(d, n), picks)
			}
		}
	}
}

// Every order of four is come to by some picks, and each by one of the smallest alone.
func TestShuffledComesToEveryOrder(t *testing.T) {
	orders := map[[4]uint64]int{}
	for i := range int64(24) {
		l := impl.Shuffled([]uint64{1, 2, 3, 4}, []int64{i / 6, i / 2 % 3, i % 2})
		if len(l) != 4 {
			t.Fatal(l)
		}
		orders[[4]uint64(l)]++
	}
	if len(orders) != 24 {
		t.Errorf("%d orders", len(orders))
	}
}

func TestTurned(t *testing.T) {
	d := &dice{155}
	for _, r := range [][2][]uint64{{nil, nil}, {{}, nil}, {{7}, {7}}, {{1, 2}, {2, 1}}, {{1, 2, 3}, {3, 2, 1}}, {{1, 1, 2, math.MaxUint64}, {math.MaxUint64, 2, 1, 1}}} {
		if got := impl.Turned(r[0]); !slices.Equal(got, r[1]) {
			t.Errorf("%v: %v", r[0], got)
		}
	}
	for n := range impl.MaxVector + 1 {
		var xs []uint64
		for range n {
			xs = append(xs, d.next())
		}
		got := impl.Turned(xs)
		if len(got) != n || !slices.Equal(impl.Turned(got), xs) {
			t.Errorf("%d turned twice", n)
		}
		for i, x := range got {
			if x != xs[n-1-i] {
				t.Errorf("%d: place %d", n, i)
			}
		}
	}
}

func TestTooManyToShuffleOrTurn(t *testing.T) {
	for _, n := range []int{impl.MaxVector + 1, impl.MaxVector + 2, 400, 512, 10000} {
		for _, picks := range [][]int64{nil, {1}, make([]int64, n)} {
			if got := impl.Shuffled(filled(n, 1), picks); len(got) != 0 {
				t.Errorf("%d shuffled to %d", n, len(got))
			}
		}
		if got := impl.Turned(filled(n, 1)); len(got) != 0 {
			t.Errorf("%d turned to %d", n, len(got))
		}
	}
	if len(impl.Turned(filled(impl.MaxVector, 1))) != impl.MaxVector || len(impl.Shuffled(filled(impl.MaxVector, 1), nil)) != impl.MaxVector {
		t.Error("MaxVector are not too many")
	}
}

func TestBytesAndShufflesLeaveAllAsItWas(t *testing.T) {
	for _, f := range forms {
		d := &dice{156}
		for _, n := range []int{0, 1, 2, 30, impl.MaxVector} {
			room := append(f.finites(d, n), filled(50, spareMark)...)
			picks := append(anyPicks(d, n), spareMark, spareMark, spareMark)
			were, kept := slices.Clone(room), slices.Clone(picks)
			s := impl.VectorBytes(f.fm, room[:n])
			answers := [][]uint64{impl.Shuffled(room[:n], picks[:n]), impl.Shuffled(room[:n], nil), impl.Turned(room[:n])}
			again := [][]uint64{impl.Shuffled(room[:n], picks[:n]), impl.Shuffled(room[:n], nil), impl.Turned(room[:n])}
			for range 2 {
				_, xs, _ := impl.ReadVector(s)
				answers = append(answers, xs)
				again = append(again, were[:n])
			}
			for i, l := range answers {
				if !slices.Equal(l, again[i]) {
					t.Errorf("answer %d is another one the second time", i)
				}
				// What shares memory with this one shows as changed later on.
				l = l[:cap(l)]
				for j := range l {
					l[j] = ^l[j]
				}
			}
			if !slices.Equal(room, were) || !slices.Equal(picks, kept) || s != impl.VectorBytes(f.fm, room[:n]) {
				t.Errorf("%d: something was written into a vector of %d, or into the picks", f.fm, n)
			}
		}
	}
}
