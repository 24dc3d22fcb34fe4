package tests

import (
	"fmt"
	"math"
	"math/big"
	"regexp"
	"slices"
	"strconv"
	"strings"
	"testing"

	"loop.example/g00672/impl"
)

func checkScript(t *testing.T, text string, want string) {
	t.Helper()
	if got := impl.RunScript(text); got != want {
		t.Errorf("%.300q says %.300q, want %.300q", text, got, want)
	}
}

func lines(l ...string) string {
	if len(l) == 0 {
		return ""
	}
	return strings.Join(l, "\n") + "\n"
}

// player runs scripts apart from the program; it has but the sums from there.
type player struct {
	f    form
	mode int64
	xs   []uint64
}

var decimalText = regexp.MustCompile(`^(0|-?[1-9][0-9]{0,15})$`)

func (p *player) text(bits uint64, numbers ...int64) string {
	s := p.f.text(bits)
	for _, n := range numbers {
		s += fmt.Sprintf(" %d", n)
	}
	return s
}

func (p *player) res(r impl.Res) string {
	if r.Code != impl.ReOk {
		return "no"
	}
	return p.text(r.Bits, r.Flags)
}

func (p *player) says(line string) string {
	words := slices.DeleteFunc(strings.Split(line, " "), func(w string) bool { return w == "" })
	shape, ok := map[string]string{
		"format": "n", "mode": "n", "push": "x+", "turn": "", "sum": "", "abs": "", "square": "", "seq": "", "pair": "", "kahan": "", "doubled": "",
		"dot": "", "bins": "n", "prod": "", "par": "nn", "add": "xx", "sub": "xx", "mul": "xx", "hex": "x",
	}[words[0]]
	if !ok || shape == "x+" && len(words) < 2 || shape != "x+" && len(words) != 1+len(shape) {
		return "what"
	}
	var ns []int64
	var xs []uint64
	for _, w := range words[1:] {
		if shape[0] == 'n' {
			if !decimalText.MatchString(w) {
				return "what"
			}
			n, _ := strconv.ParseInt(w, 10, 64)
			ns = append(ns, n)
			continue
		}
		x, ok := p.f.read(w)
		if !ok {
			return "no"
		}
		xs = append(xs, x)
	}
	return p.does(words[0], ns, xs)
}

func (p *player) does(word string, ns []int64, xs []uint64) string {
	fm := p.f.fm
	two := func(by func(fm int64, mode int64, a uint64, b uint64) (uint64, int64, bool)) string {
		x, flags, _ := by(fm, p.mode, xs[0], xs[1])
		return p.text(x, flags)
	}
	switch word {
	case "format":
		for _, f := range forms {
			if f.fm == ns[0] {
				*p = player{f: f, mode: p.mode}
				return fmt.Sprintf("format %d", f.fm)
			}
		}
		return "no"
	case "mode":
		if !slices.Contains(modes, ns[0]) {
			return "no"
		}
		p.mode = ns[0]
		return fmt.Sprintf("mode %d", p.mode)
	case "push":
		if len(p.xs)+len(xs) > 300 {
			return "no"
		}
		p.xs = slices.Concat(p.xs, xs)
		return fmt.Sprintf("has %d", len(p.xs))
	case "turn":
		p.xs = slices.Clone(p.xs)
		slices.Reverse(p.xs)
		return fmt.Sprintf("has %d", len(p.xs))
	case "add":
		return two(impl.FloatAdd)
	case "sub":
		return two(impl.FloatSub)
	case "mul":
		return two(impl.FloatMul)
	case "hex":
		return p.f.digits(xs[0])
	}
	return p.asked(word, ns)
}

// asked is what a line says that asks for something of the vector.
func (p *player) asked(word string, ns []int64) string {
	fm, mode, xs := p.f.fm, p.mode, p.xs
	switch word {
	case "sum":
		return p.res(impl.SumOf(fm, mode, xs))
	case "abs":
		return p.res(impl.SumAbs(fm, mode, xs))
	case "square":
		return p.res(impl.SumSquare(fm, mode, xs))
	case "seq":
		return p.res(impl.SeqSum(fm, mode, xs))
	case "pair":
		return p.res(impl.PairSum(fm, mode, xs))
	case "kahan":
		return p.res(impl.KahanSum(fm, xs))
	case "doubled":
		return p.res(impl.DoubledSum(fm, xs))
	case "dot":
		if len(xs)%2 == 1 {
			return "no"
		}
		return p.res(impl.Dot(fm, mode, xs[:len(xs)/2], xs[len(xs)/2:]))
	case "bins":
		return p.res(impl.BinSum(fm, mode, ns[0], xs))
	case "prod":
		r := impl.ScaledProd(fm, xs)
		return p.text(r.Bits, r.Scale, r.Flags)
	}
	// par: whatever the workers do, it is the sum.
	if ns[0] < 1 || ns[0] > impl.MaxWorkers || ns[1] < 1 || ns[1] > impl.MaxVector {
		return "no"
	}
	return p.res(impl.SumOf(fm, mode, xs))
}

// played is what a script of at most MaxScript lines says.
func played(text string) string {
	p := &player{f: forms[0]}
	var out strings.Builder
	for _, line := range strings.Split(text, "\n") {
		if strings.Trim(line, " ") != "" {
			out.WriteString(p.says(line) + "\n")
		}
	}
	return out.String()
}

func TestNumbersOfScripts(t *testing.T) {
	if impl.MaxScript != 40 || impl.MaxBytes != 4000 {
		t.Error("a constant of chapter 15")
	}
}

// Each word of the table, as the chapter has it, by hand.
func TestWordsByTable(t *testing.T) {
	for _, r := range [][2]string{
		{"format 32\n", "format 32\n"},
		{"format 64\n", "format 64\n"},
		{"mode 0\nmode 1\nmode 2\nmode 3\nmode 4\nmode 5\n", "mode 0\nmode 1\nmode 2\nmode 3\nmode 4\nmode 5\n"},
		{"push 1p0\npush 1p1 -3p0 0p0\npush nan inf -inf -0p0\n", "has 1\nhas 4\nhas 8\n"},
		{"turn\npush 1p0 3p0\nturn\n", "has 0\nhas 2\nhas 2\n"},
		{"push 1p0 1p1 -3p2\nsum\nabs\nsquare\n", "has 3\n-9p0 0\n15p0 0\n149p0 0\n"},
		{"push 1p24 1p0 1p0\nsum\nseq\npair\n", "has 3\n8388609p1 0\n1p24 1\n8388609p1 0\n"},
		{"push 1p24 1p0 1p0 -1p24\nkahan\ndoubled\nsum\n", "has 4\n1p1 1\n1p1 0\n1p1 0\n"},
		{"push 1p0 1p1 3p0 5p0\ndot\n", "has 4\n13p0 0\n"},
		{"push 1p0 1p1 3p0\ndot\n", "has 3\nno\n"},
		{"push 1p40 1p0 1p0\nbins 2\nbins 3\nbins 4\nsum\n", "has 3\n1p40 0\n1p40 1\n1p40 1\n1p40 1\n"},
		{"push 3p0 -5p0\nprod\n", "has 2\n-15p-3 3 0\n"},
		{"push 16777215p104 16777215p104\nprod\n", "has 2\n8388607p-22 255 1\n"},
		{"push 1p-149 3p-1\nprod\nturn\nprod\n", "has 2\n3p-1 -149 0\nhas 2\n3p-1 -149 0\n"},
		{"push 1p24 1p0 1p0\npar 1 1\npar 16 300\npar 3 2\n", "has 3\n8388609p1 0\n8388609p1 0\n8388609p1 0\n"},
		{"add 1p0 1p1\nsub 1p0 1p1\nmul 3p0 -5p1\n", "3p0 0\n-1p0 0\n-15p1 0\n"},
		{"add 1p24 1p0\nsub 1p24 -1p0\nmul 16777215p104 1p1\nmul 1p-149 1p-1\n", "1p24 1\n1p24 1\ninf 5\n0p0 3\n"},
		{"add inf -inf\nsub inf inf\nmul inf 0p0\nadd nan 1p0\nadd nan.7f800001 1p0\nmul nan.7fc00001 nan\n", "nan 8\nnan 8\nnan 8\nnan 0\nnan 8\nnan 0\n"},
		{"hex 1p0\nhex -0p0\nhex inf\nhex nan\nhex nan.ffffffff\nhex 1p-149\n", "3f800000\n80000000\n7f800000\n7fc00000\nffffffff\n00000001\n"},
		{"format 64\nhex 1p0\nhex -0p0\nhex nan\nhex nan.fff8000000000000\nhex 1p-1074\n", "format 64\n3ff0000000000000\n8000000000000000\n7ff8000000000000\nfff8000000000000\n0000000000000001\n"},
		{"format 64\npush 1p53 1p0 1p0\nsum\nseq\nturn\nseq\n", "format 64\nhas 3\n4503599627370497p1 0\n1p53 1\nhas 3\n4503599627370497p1 0\n"},
	} {
		checkScript(t, r[0], r[1])
		if played(r[0]) != r[1] {
			t.Errorf("%q is played as %q", r[0], played(r[0]))
		}
	}
}

func TestModesOfLines(t *testing.T) {
	for mode, want := range map[int]string{
		0: "1p24 1\n1p24 1\n1p24 1\n1p24 1\n1p24 1\n1p24 1\n1p24 1\n1p24 1\n-1p24 1\n0p0 0\n",
		1: "1p24 1\n1p24 1\n1p24 1\n1p24 1\n1p24 1\n1p24 1\n1p24 1\n1p24 1\n-1p24 1\n0p0 0\n",
		2: "8388609p1 1\n8388609p1 1\n8388609p1 1\n8388609p1 1\n1p24 1\n8388609p1 1\n8388609p1 1\n8388609p1 1\n-1p24 1\n0p0 0\n",
		3: "1p24 1\n1p24 1\n1p24 1\n1p24 1\n1p24 1\n1p24 1\n1p24 1\n1p24 1\n-8388609p1 1\n-0p0 0\n",
		4: "8388609p1 1\n8388609p1 1\n8388609p1 1\n8388609p1 1\n1p24 1\n8388609p1 1\n8388609p1 1\n8388609p1 1\n-8388609p1 1\n0p0 0\n",
		5: "1p24 1\n1p24 1\n1p24 1\n1p24 1\n1p24 1\n1p24 1\n1p24 1\n1p24 1\n-1p24 1\n0p0 0\n",
	} {
		// kahan rounds to even whatever the mode is.
		text := fmt.Sprintf("mode %d\npush 1p24 1p0\nsum\nabs\nseq\npair\nkahan\nbins 2\npar 2 1\nadd 1p24 1p0\nsub -1p24 1p0\nsub 1p0 1p0\n", mode)
		checkScript(t, text, fmt.Sprintf("mode %d\nhas 2\n", mode)+want)
	}
	checkScript(t, "mode 2\npush 4097p0 0p0\nsquare\nturn\nmode 3\nsquare\n", "mode 2\nhas 2\n8392705p1 1\nhas 2\nmode 3\n2049p13 1\n")
}

// What a sum of none says: zero, without a sign as there are no terms.
func TestSumsOfNoFloat(t *testing.T) {
	asks := lines("sum", "abs", "square", "seq", "pair", "kahan", "doubled", "dot", "bins 2", "bins 3", "bins 4", "par 1 1", "par 16 300", "turn", "prod")
	want := strings.Repeat("0p0 0\n", 13) + "has 0\n1p0 0 0\n"
	checkScript(t, asks, want)
	for _, fm := range []string{"32", "64"} {
		for mode := range 6 {
			checkScript(t, fmt.Sprintf("format %s\nmode %d\n", fm, mode)+asks, fmt.Sprintf("format %s\nmode %d\n", fm, mode)+want)
		}
	}
}

var (
	arguments = map[string]string{
		"format": "64", "mode": "1", "push": "1p0", "turn": "", "sum": "", "abs": "", "square": "", "seq": "", "pair": "", "kahan": "", "doubled": "",
		"dot": "", "bins": "2", "prod": "", "par": "1 1", "add": "1p0 1p0", "sub": "1p0 1p0", "mul": "1p0 1p0", "hex": "1p0",
	}
	// noDecimals: what is not in decimal, as the conventions say it.
	noDecimals = []string{"00", "01", "032", "-0", "-00", "-01", "+1", "+32", "+0", "--1", "1-", "-", "+", "1.0", "1.", ".1", "1e1", "0x20", "20h", "1p0", "x", "thirty", "1_0", "1,0", "３２", "٣", "1\t", "\t1", "32\r", "\x00", "\xff", "10000000000000000", "-10000000000000000", "99999999999999999", "9223372036854775808", "-9223372036854775808", "18446744073709551648", "0000000000000032"}
	// farDecimals: what is, and yet is nothing that a line takes.
	farDecimals = []string{"-1", "-2", "-32", "-300", "301", "33", "1000", "4294967328", "4294967297", "9999999999999999", "-9999999999999999", "1000000000000000"}
)

func TestAWordTooFewOrTooMany(t *testing.T) {
	for word, with := range arguments {
		right := strings.TrimRight(word+" "+with, " ")
		if s := impl.RunScript(right + "\n"); s == "what\n" || s == "no\n" || s == "" {
			t.Errorf("%q says %q", right, s)
		}
		var wrong []string
		if with != "" {
			wrong = append(wrong, word, right[:strings.LastIndex(right, " ")])
		}
		if word != "push" {
			wrong = append(wrong, right+" 1", right+" 1p0", right+" x", right+" sum", right+" "+right, right+" 1 1 1 1 1")
		}
		for _, line := range wrong {
			checkScript(t, line+"\n", "what\n")
		}
		for _, other := range []string{strings.ToUpper(word), strings.ToUpper(word[:1]) + word[1:], word + "s", word[1:], word[:len(word)-1], "-" + word, word + ":", "\t" + word, word + "\t", word + "\r", "\xff" + word, word + "\x00", word + "\u00a0", "\ufeff" + word, "\"" + word + "\""} {
			checkScript(t, strings.TrimRight(other+" "+with, " ")+"\n", "what\n")
		}
	}
	checkScript(t, "32\n1p0\n-\n?\nquit\nhelp\nformat32\nmode1\n", strings.Repeat("what\n", 8))
	// What can't be read comes behind what there is too much or too little of.
	checkScript(t, "add 1p0\nadd x\nadd x x x\nhex x x\nhex\npush\npar x\nbins\nbins x x\nsum x\n", strings.Repeat("what\n", 10))
}

func TestNumbersThatAreNotInDecimal(t *testing.T) {
	for _, n := range noDecimals {
		for _, line := range []string{"format " + n, "mode " + n, "bins " + n, "par " + n + " 1", "par 1 " + n, "par 0 " + n, "par " + n + " 0", "par " + n + " " + n} {
			checkScript(t, line+"\nsum\n", "what\n0p0 0\n")
		}
	}
	for _, n := range farDecimals {
		for _, line := range []string{"format " + n, "mode " + n, "bins " + n, "par " + n + " 1", "par 1 " + n, "par " + n + " " + n} {
			want := "no\n"
			if p, ok := strings.CutPrefix(line, "par 1 "); ok && p == "33" {
				want = "0p0 0\n"
			}
			checkScript(t, line+"\nsum\n", want+"0p0 0\n")
		}
	}
	for _, n := range []string{"0", "1", "5", "16"} {
		checkScript(t, "bins "+n+"\nformat "+n+"\npar 0 "+n+"\n", "no\nno\nno\n")
	}
	checkScript(t, "mode 6\npar 17 1\npar 1 0\npar 1 300\npar 16 1\n", "no\nno\nno\n0p0 0\n0p0 0\n")
}

// A line that says "no" or "what" changes nothing: the next ones say what they say without it.
func TestNoAndWhatChangeNothing(t *testing.T) {
	ahead := []string{"format 64", "mode 3", "push 1p0 1p53 1p0"}
	asks := []string{"sum", "seq", "bins 2", "sub 1p0 1p0", "push 3p0", "turn", "seq", "hex 1p-1074"}
	says := impl.RunScript(lines(slices.Concat(ahead, asks)...))
	first := "format 64\nmode 3\nhas 3\n"
	rest, ok := strings.CutPrefix(says, first)
	if !ok || strings.Contains(says, "what") || strings.Contains(says, "no") {
		t.Fatal(says)
	}
	for _, l := range [][]string{
		{"no", "format 0", "format 1", "format 16", "format -32", "format -64", "format 128", "format 3264"},
		{"what", "format", "format 064", "format 32 64", "Format 32", "format +32", "format 32.", "format\t32"},
		{"no", "mode 6", "mode -1", "mode 7", "mode 32", "mode 9999999999999999"},
		{"what", "mode", "mode 00", "mode 1 1", "mode -0", "MODE 1", "mode even", "mode 00000000000000001"},
		{"no", "push x", "push 1p0 x", "push x 1p0", "push 1p0 1p0 1p0 2p0", "push 1", "push 01p0", "push nan.7ff8000000000000", "push nan.7f800001", "push 1p1024", "push 1p-1075", "push 9007199254740993p0"},
		{"no", "push" + strings.Repeat(" 0p0", 298), "push" + strings.Repeat(" 0p0", 301)},
		{"what", "push", "Push 1p0", "turn 1", "Turn", "sum 1", "abs 1p0", "par 1", "par 1 1 1", "par 1 x", "bins", "bins 2 2", "bins 02", "add 1p0", "hex"},
		{"no", "dot", "bins 1", "bins 5", "bins 0", "par 0 1", "par 17 1", "par 1 0", "par 1 301", "par -1 1", "add 1p0 x", "sub x 1p0", "mul 2p0 1p0", "hex x", "hex 2p0"},
	} {
		for _, line := range l[1:] {
			checkScript(t, lines(slices.Concat(ahead, []string{line}, asks)...), first+l[0]+"\n"+rest)
			checkScript(t, lines(slices.Concat(ahead, []string{line, line}, asks)...), first+l[0]+"\n"+l[0]+"\n"+rest)
		}
	}
}

func TestBlanks(t *testing.T) {
	many := strings.Repeat(" ", 500)
	for _, r := range [][2]string{
		{"", ""},
		{"\n", ""},
		{" \n", ""},
		{many + "\n", ""},
		{"\n\n" + many + "\n \n\n", ""},
		{"sum\n\nsum\n \n\nsum\n", "0p0 0\n0p0 0\n0p0 0\n"},
		{" sum\n", "0p0 0\n"},
		{"sum \n", "0p0 0\n"},
		{many + "sum" + many + "\n", "0p0 0\n"},
		{"  add   1p0 " + many + "1p1   \n", "3p0 0\n"},
		{"push" + many + "1p0  1p0 \n   par  1    1 \n", "has 2\n1p1 0\n"},
		// A tab, and whatever else looks like a blank, is none.
		{"\t\n", "what\n"},
		{" \t \n", "what\n"},
		{"\tsum\n", "what\n"},
		{"sum\t\n", "what\n"},
		{"sum \t\n", "what\n"},
		{"add\t1p0 1p0\n", "what\n"},
		{"add 1p0\t1p0\n", "what\n"},
		{"add 1p0 1p0\t\n", "no\n"},
		{"push 1p0\t1p0\n", "no\n"},
		{"push \t\n", "no\n"},
		{"hex\u00a01p0\n", "what\n"},
		{"\u00a0\n\u2003\n\v\n\f\n\r\n", "what\nwhat\nwhat\nwhat\nwhat\n"},
		{"sum\r\n", "what\n"},
		{"sum\rsum\n", "what\n"},
		{"hex 1p0\r\n", "no\n"},
		{"\u3000sum\n", "what\n"},
	} {
		checkScript(t, r[0], r[1])
	}
}

func TestBytesThatAreNoText(t *testing.T) {
	for b := range 256 {
		c := string([]byte{byte(b)})
		if c == " " || c == "\n" {
			continue
		}
		checkScript(t, c+"\nsum\n", "what\n0p0 0\n")
		checkScript(t, "sum"+c+"\n", "what\n")
		checkScript(t, c+"sum\n", "what\n")
		checkScript(t, "hex "+c+"\n", "no\n")
		checkScript(t, "push 1p0 "+c+" 1p0\nturn\n", "no\nhas 0\n")
		checkScript(t, "sum "+c+"\n", "what\n")
		if b < '0' || b > '9' {
			checkScript(t, "mode "+c+"\nbins 2"+c+"\n", "what\nwhat\n")
		}
		checkScript(t, c, "too long\n")
	}
	checkScript(t, "\xff\xfe\n\xe2\x82\n\xc0\x80 \xed\xa0\x80\n\x00\x00\x00\n", "what\nwhat\nwhat\nwhat\n")
	checkScript(t, "push \xe2\x82\nadd \xff \xff\nmode \xb2\nhex 1p\xb2\n", "no\nno\nwhat\nno\n")
	checkScript(t, strings.Repeat("\xff", 3999)+"\n", "what\n")
	checkScript(t, strings.Repeat("\xff", 4000)+"\n", "too long\n")
	checkScript(t, strings.Repeat("\xff\n", 40), strings.Repeat("what\n", 40))
}

func TestScriptsThatAreTooLong(t *testing.T) {
	for _, line := range []string{"sum\n", "\n", "   \n", "what\n", "sum\n\n", "\n \n", "\t\n"} {
		n := strings.Count(line, "\n")
		most := strings.Repeat(line, impl.MaxScript/n)
		checkScript(t, most, played(most))
		for _, more := range []string{"\n", " \n", "sum\n", "\n\n", line, most} {
			checkScript(t, most+more, "too long\n")
			checkScript(t, more+most, "too long\n")
		}
	}
	for _, text := range []string{"sum", " ", "\t", "sum\nsum", "sum\n ", "\n ", "sum\n\nsum\n    ", "x", strings.Repeat("\n", 40) + " ", strings.Repeat("\n", 39) + "sum", "sum\r", "sum\x00"} {
		checkScript(t, text, "too long\n")
		if strings.Count(text, "\n") < impl.MaxScript && impl.RunScript(text+"\n") == "too long\n" {
			t.Errorf("%q is not too long once it is ended", text)
		}
	}
}

func TestMaxBytes(t *testing.T) {
	for _, n := range []int{3998, 3999, 4000, 4001, 4002, 5000, 100000} {
		for _, r := range [][2]string{
			{strings.Repeat(" ", n-1) + "\n", ""},
			{"sum" + strings.Repeat(" ", n-4) + "\n", "0p0 0\n"},
			{strings.Repeat(" ", n-4) + "sum\n", "0p0 0\n"},
			{strings.Repeat("x", n-1) + "\n", "what\n"},
			{"hex " + strings.Repeat("1", n-5) + "\n", "no\n"},
			{"mode " + strings.Repeat("1", n-6) + "\n", "what\n"},
			{"sum\n" + strings.Repeat("\n", 38) + strings.Repeat("x", n-43) + "\n", "0p0 0\nwhat\n"},
			// 4000 bytes that are fewer runes.
			{strings.Repeat("ä", (n-1)/2) + strings.Repeat("x", (n-1)%2) + "\n", "what\n"},
		} {
			want := r[1]
			if n > impl.MaxBytes {
				want = "too long\n"
			}
			if len(r[0]) != n {
				t.Fatal(len(r[0]), n)
			}
			checkScript(t, r[0], want)
		}
	}
}

func TestPushUpToMaxVector(t *testing.T) {
	many := func(n int) string { return "push" + strings.Repeat(" 1p0", n) + "\n" }
	for _, r := range [][2]string{
		{many(300) + "sum\n" + many(1) + "sum\n", "has 300\n75p2 0\nno\n75p2 0\n"},
		{many(301) + "sum\n" + many(1), "no\n0p0 0\nhas 1\n"},
		{many(299) + many(2) + many(1) + many(1) + "sum\n", "has 299\nno\nhas 300\nno\n75p2 0\n"},
		{many(150) + many(151) + many(150) + "turn\nsum\n" + many(1), "has 150\nno\nhas 300\nhas 300\n75p2 0\nno\n"},
		{many(300) + "format 32\nsum\n" + many(300), "has 300\nformat 32\n0p0 0\nhas 300\n"},
		{many(300) + "push x\npush\npush 2p0\n", "has 300\nno\nwhat\nno\n"},
		{many(256) + "dot\nprod\npar 16 1\nbins 4\n", "has 256\n1p7 0\n1p0 0 0\n1p8 0\n1p8 0\n"},
		{many(799), "no\n"},
	} {
		checkScript(t, r[0], r[1])
	}
	text, says := "", ""
	for i := 1; i <= 38; i++ {
		text, says = text+"push 1p0 1p1 1p2 1p3 1p4 1p5 1p6 1p7\n", says+fmt.Sprintf("has %d\n", 8*i)
	}
	checkScript(t, text+"sum\n", strings.ReplaceAll(says, "has 304", "no")+"9435p0 0\n")
}

// A wrong float at each place among right ones: none of them is put.
func TestAWrongFloatAmongRightOnes(t *testing.T) {
	for _, f := range forms {
		wrong := []string{"x", "1", "p0", "1p", "2p0", "01p0", "+1p0", "-0p1", "0p1", "1p00", "1p+1", "1P0", "Inf", "NaN", "-nan", "+inf", "infinity", "nan.", "0x1p0", "1.0", "1p0,", "1e0", "push", "-", "\t", "\xff", "1p99999", "99999999999999999p0"}
		if f.fm == 32 {
			wrong = append(wrong, "16777217p0", "1p128", "1p-150", "nan.7fc00000", "nan.7f800000", "nan.7f80000", "nan.7F800001", "nan.3f800000", "nan.7ff0000000000001")
		} else {
			wrong = append(wrong, "9007199254740993p0", "1p1024", "1p-1075", "nan.7ff8000000000000", "nan.7ff0000000000000", "nan.7f800001", "nan.7FF0000000000001")
		}
		head := fmt.Sprintf("format %d\npush 5p0\n", f.fm)
		said := fmt.Sprintf("format %d\nhas 1\n", f.fm)
		for _, no := range wrong {
			for p := range 5 {
				words := []string{"1p0", "1p1", "1p2", "1p3", "1p4"}
				words[p] = no
				checkScript(t, head+"push "+strings.Join(words, " ")+"\nsum\npush 1p0\n", said+"no\n5p0 0\nhas 2\n")
			}
			checkScript(t, head+"push "+no+"\nhex "+no+"\nadd "+no+" 1p0\nsub 1p0 "+no+"\nmul "+no+" "+no+"\n", said+strings.Repeat("no\n", 5))
		}
	}
}

func TestFormatAndModeInTheMidst(t *testing.T) {
	for _, r := range [][2]string{
		{"push 1p0\nformat 64\nsum\nturn\n", "has 1\nformat 64\n0p0 0\nhas 0\n"},
		{"push 1p0\nformat 32\nsum\nturn\n", "has 1\nformat 32\n0p0 0\nhas 0\n"},
		{"push 1p0\nformat 16\nsum\nturn\n", "has 1\nno\n1p0 0\nhas 1\n"},
		{"push 1p0\nformat 064\nsum\nturn\n", "has 1\nwhat\n1p0 0\nhas 1\n"},
		{"format 64\nformat 32\nhex 1p0\nhex 1p-150\n", "format 64\nformat 32\n3f800000\nno\n"},
		{"hex 1p128\nformat 64\nhex 1p128\nformat 32\nhex 1p128\n", "no\nformat 64\n47f0000000000000\nformat 32\nno\n"},
		// A format leaves the mode as it is, a mode the vector and the format.
		{"mode 2\nformat 64\nadd 1p53 1p0\nformat 32\nadd 1p24 1p0\n", "mode 2\nformat 64\n4503599627370497p1 1\nformat 32\n8388609p1 1\n"},
		{"push 1p24 1p0\nmode 2\nsum\nmode 3\nsum\nmode 6\nsum\nmode 2\nmode\nsum\nturn\n", "has 2\nmode 2\n8388609p1 1\nmode 3\n1p24 1\nno\n1p24 1\nmode 2\nwhat\n8388609p1 1\nhas 2\n"},
		{"format 64\nmode 3\nhex 1p0\nsub 1p0 1p0\n", "format 64\nmode 3\n3ff0000000000000\n-0p0 0\n"},
		{"mode 3\nsum\npush 1p0\nformat 32\nsum\n", "mode 3\n0p0 0\nhas 1\nformat 32\n0p0 0\n"},
		{"mode 2\nmode 0\nadd 1p24 1p0\n", "mode 2\nmode 0\n1p24 1\n"},
	} {
		checkScript(t, r[0], r[1])
	}
}

// The first half and the second one, of each number of floats.
func TestDotOfOddAndEven(t *testing.T) {
	for n := range 24 {
		text, sum := "push", int64(0)
		for i := range n {
			text += fmt.Sprintf(" %dp0", 2*i+1)
			if i >= n/2 {
				sum += int64(2*i+1) * int64(2*(i-n/2)+1)
			}
		}
		want := fmt.Sprintf("has %d\nno\n", n)
		if n%2 == 0 {
			x, ok := impl.ExactFloat(32, wideOfBig(big.NewInt(sum)), 0)
			if !ok {
				t.Fatal(sum)
			}
			want = fmt.Sprintf("has %d\n%s 0\n", n, forms[0].text(x))
		}
		if n == 0 {
			text, want = "turn", "has 0\n0p0 0\n"
		}
		checkScript(t, text+"\ndot\n", want)
		checkScript(t, "format 64\n"+text+"\ndot\n", "format 64\n"+want)
	}
}

// checkPars: with each number of workers, and a grain and the next one, par says what sum says.
func checkPars(t *testing.T, head string, grain int) {
	t.Helper()
	said := impl.RunScript(head)
	sum := strings.TrimPrefix(impl.RunScript(head+"sum\n"), said)
	for workers := 1; workers <= impl.MaxWorkers; workers++ {
		for _, g := range []int{grain, grain + 1} {
			head += fmt.Sprintf("par %d %d\n", workers, g)
			said += sum
		}
	}
	checkScript(t, head, said)
}

func TestParOfAllWorkersAndGrains(t *testing.T) {
	d := &dice{166}
	for grain := 1; grain < impl.MaxVector; grain += 2 {
		checkPars(t, "mode 2\npush 1p24 1p0 1p-3 3p2 -5p-7 1p1 1p90 -1p90 9p0 -1p-149 7p7\n", grain)
		if d.below(5) == 0 || grain < 10 {
			for _, head := range []string{"format 64\npush 1p53 1p0 1p0 -3p-50 1p900 -1p900 1p-1074\n", "push -0p0 -0p0\n", "push inf 1p0 nan\n", "push inf -1p0 -inf\n", "mode 3\n", ""} {
				checkPars(t, head, grain)
			}
		}
	}
}

func TestParOfNoWorkersAndNoGrains(t *testing.T) {
	var none []string
	for _, n := range []int64{0, -1, 17, 18, 33, 301, -16, -300, 1 << 32, 1<<32 + 1, 9999999999999999, -9999999999999999} {
		none = append(none, fmt.Sprintf("par %d 1", n))
		if n < 1 || n > impl.MaxVector {
			none = append(none, fmt.Sprintf("par 1 %d", n), fmt.Sprintf("par 16 %d", n))
		}
	}
	for _, head := range []string{"", "push 1p0\n", "push 1p0 1p1 1p2 1p3\n"} {
		checkScript(t, head+lines(none...), impl.RunScript(head)+strings.Repeat("no\n", len(none)))
	}
}

func TestParOfLongVectors(t *testing.T) {
	for _, f := range forms {
		d := &dice{161}
		head := fmt.Sprintf("format %d\nmode %d\n", f.fm, d.below(6))
		for range 6 {
			line := "push"
			for range 50 {
				if s := " " + f.text(f.sign&d.next()|f.scaled(int64(1+d.below(99)), int64(d.below(60)-30))); len(line)+len(s) < 640 {
					line += s
				}
			}
			head += line + "\n"
		}
		says := impl.RunScript(head)
		sum := strings.TrimPrefix(impl.RunScript(head+"sum\n"), says)
		for range 20 {
			text, want := head, says
			for range 8 {
				text += fmt.Sprintf("par %d %d\n", 1+d.below(16), 1+d.below(1+d.below(300)))
				want += sum
			}
			checkScript(t, text, want)
		}
	}
}

// drawnFloat is a word that is a float of the format, or now and then something else.
func drawnFloat(d *dice, f form) string {
	switch d.below(14) {
	case 0:
		l := []string{"x", "2p0", "1", "1p2000", "nan.7fc00000", "16777217p-1", "1p-1074", "1p130", "NaN", "\xff", "0p00"}
		return l[d.below(len(l))]
	case 1:
		c := f.corners()
		return f.text(c[d.below(len(c))])
	}
	return f.text(f.scaled(int64(1+d.below(1<<d.below(24))), int64(d.below(40)-20)) | d.next()&f.sign)
}

// drawnNumber is mostly one from to, and now and then something else.
func drawnNumber(d *dice, from int, to int) string {
	switch d.below(12) {
	case 0:
		return noDecimals[d.below(len(noDecimals))]
	case 1:
		return farDecimals[d.below(len(farDecimals))]
	}
	return strconv.Itoa(from + d.below(to-from+1))
}

var askingWords = []string{"sum", "abs", "square", "seq", "pair", "kahan", "doubled", "dot", "bins", "prod", "par", "add", "sub", "mul", "hex"}

// drawnAsk is a line that asks, and changes nothing.
func drawnAsk(d *dice, f form) string {
	word := askingWords[d.below(len(askingWords))]
	switch word {
	case "bins":
		return word + " " + drawnNumber(d, 2, 4)
	case "par":
		return word + " " + drawnNumber(d, 1, 16) + " " + drawnNumber(d, 1, 1+d.below(300))
	case "add", "sub", "mul":
		return word + " " + drawnFloat(d, f) + " " + drawnFloat(d, f)
	case "hex":
		return word + " " + drawnFloat(d, f)
	}
	return word
}

// drawnLine is a line of any kind; f is the format that most of its floats have.
func drawnLine(d *dice, f form) string {
	line := drawnAsk(d, f)
	switch d.below(12) {
	case 0:
		line = "format " + []string{"32", "64", "64", drawnNumber(d, 31, 65)}[d.below(4)]
	case 1:
		line = "mode " + drawnNumber(d, 0, 6)
	case 2, 3, 4:
		line = "push"
		for range d.below(6) {
			line += " " + drawnFloat(d, f)
		}
	case 5:
		line = "turn"
	}
	switch d.below(20) {
	case 0:
		line += " " + []string{"1", "1p0", "x", "sum"}[d.below(4)]
	case 1:
		line = strings.ReplaceAll("  "+line+"   ", " ", "   ")
	case 2:
		line = strings.Repeat(" ", d.below(5))
	case 3:
		p := d.below(len(line))
		line = line[:p] + string([]byte{byte(d.next())}) + line[p:]
	}
	return strings.ReplaceAll(line, "\n", "")
}

// drawnScript is of some lines, and so few bytes that others may stand beside it.
func drawnScript(d *dice, most int) []string {
	f := forms[d.below(2)]
	l := []string{fmt.Sprintf("format %d", f.fm), fmt.Sprintf("mode %d", d.below(6))}
	size := 0
	for range d.below(most) {
		line := drawnLine(d, f)
		if size += len(line); size < 1800 {
			l = append(l, line)
		}
	}
	return l[d.below(3):]
}

func TestScriptsOfAnyLines(t *testing.T) {
	d := &dice{162}
	seen := map[string]int{}
	for range 4000 {
		text := lines(drawnScript(d, 36)...)
		want := played(text)
		checkScript(t, text, want)
		for _, line := range strings.Split(want, "\n") {
			word, _, _ := strings.Cut(line, " ")
			seen[word]++
		}
	}
	for _, word := range []string{"no", "what", "has", "format", "mode", "nan", "inf", "-inf", "0p0"} {
		if seen[word] < 50 {
			t.Errorf("%q was said %d times", word, seen[word])
		}
	}
}

// Line after line put behind a script: what it said stays said, and each line says one line, or nothing.
func TestPromise15WhatWasSaidStaysSaid(t *testing.T) {
	d := &dice{163}
	for range 700 {
		text, says := "", ""
		for _, line := range drawnScript(d, 38) {
			text += line + "\n"
			more, ok := strings.CutPrefix(impl.RunScript(text), says)
			want := 1
			if strings.Trim(line, " ") == "" {
				want = 0
			}
			if !ok || strings.Count(more, "\n") != want || want == 1 && !strings.HasSuffix(more, "\n") {
				t.Errorf("%q behind %q says %q", line, text, more)
			}
			says += more
		}
	}
	for range 700 {
		ahead, behind := drawnScript(d, 18), drawnScript(d, 18)
		says := impl.RunScript(lines(slices.Concat(ahead, behind)...))
		if !strings.HasPrefix(says, impl.RunScript(lines(ahead...))) {
			t.Errorf("%q says something else with %q behind it", ahead, behind)
		}
	}
}

// Up to the limits what was said stays said; beyond them nothing is.
func TestPromise15UpToTheLimits(t *testing.T) {
	text, says := "", ""
	for i := 1; i <= impl.MaxScript; i++ {
		text, says = text+"push 1p0\n", says+fmt.Sprintf("has %d\n", i)
		checkScript(t, text, says)
	}
	checkScript(t, text+"push 1p0\n", "too long\n")
	head := "push" + strings.Repeat(" 1p0", 300) + "\n"
	says = "has 300\n"
	for i := range 4 {
		room := impl.MaxBytes - len(head)
		checkScript(t, head+strings.Repeat(" ", room-5+i)+"sum\n", []string{says + "75p2 0\n", says + "75p2 0\n", "too long\n", "too long\n"}[i])
	}
}

func TestPromise15AskingChangesNothing(t *testing.T) {
	d := &dice{164}
	probes := []string{"sum", "seq", "square", "prod", "bins 2", "add 1p24 1p0", "sub 1p0 1p0", "hex 1p0", "turn", "seq", "push 1p0"}
	for range 500 {
		f := forms[d.below(2)]
		head := []string{fmt.Sprintf("format %d", f.fm), fmt.Sprintf("mode %d", d.below(6))}
		for range d.below(4) {
			head = append(head, strings.TrimRight("push 1p0 "+drawnFloat(d, f)+" "+drawnFloat(d, f), " "))
		}
		var asks []string
		for range 1 + d.below(12) {
			asks = append(asks, drawnAsk(d, f))
		}
		plain := impl.RunScript(lines(slices.Concat(head, probes)...))
		before := impl.RunScript(lines(head...))
		asked := strings.TrimPrefix(impl.RunScript(lines(slices.Concat(head, asks)...)), before)
		want := before + asked + strings.TrimPrefix(plain, before)
		checkScript(t, lines(slices.Concat(head, asks, probes)...), want)
		// Each line that asks says the same wherever it stands among others that ask.
		var turned string
		for i := len(asks) - 1; i >= 0; i-- {
			turned += strings.TrimPrefix(impl.RunScript(lines(append(slices.Clone(head), asks[i])...)), before)
		}
		slices.Reverse(asks)
		checkScript(t, lines(slices.Concat(head, asks)...), before+turned)
	}
}

// One script keeps nothing for the next one.
func TestPromise15ScriptsKeepNothing(t *testing.T) {
	for range 3 {
		checkScript(t, "sum\nhex 1p0\nadd 1p24 1p0\npush 1p0\nmode 2\nformat 64\npush 1p0\n", "0p0 0\n3f800000\n1p24 1\nhas 1\nmode 2\nformat 64\nhas 1\n")
		checkScript(t, "format 64\nmode 5\npush 1p1\n", "format 64\nmode 5\nhas 1\n")
		checkScript(t, "x", "too long\n")
	}
}

// The table's sums are those of the chapters before, with the vector of the script.
func TestAskingWordsAreTheFunctions(t *testing.T) {
	for _, f := range forms {
		d := &dice{165}
		for range 150 {
			mode := modes[d.below(6)]
			xs := f.mixed(d, d.below(9))
			p := &player{f: f, mode: mode, xs: xs}
			head := fmt.Sprintf("format %d\nmode %d\n", f.fm, mode)
			said := head
			if len(xs) > 0 {
				head += "push"
				for _, x := range xs {
					head += " " + f.text(x)
				}
				head += "\n"
				said += fmt.Sprintf("has %d\n", len(xs))
			}
			for _, word := range []string{"sum", "abs", "square", "seq", "pair", "kahan", "doubled", "dot", "prod"} {
				checkScript(t, head+word+"\n", said+p.asked(word, nil)+"\n")
			}
			for k := int64(0); k <= 6; k++ {
				checkScript(t, head+fmt.Sprintf("bins %d\n", k), said+p.asked("bins", []int64{k})+"\n")
			}
			for _, n := range []int64{0, 1, 2, 16, 17, math.MaxInt32} {
				checkScript(t, head+fmt.Sprintf("par %d 1\npar 3 %d\n", n, n), said+p.asked("par", []int64{n, 1})+"\n"+p.asked("par", []int64{3, n})+"\n")
			}
		}
	}
}
