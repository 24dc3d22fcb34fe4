package tests

import (
	"go/ast"
	"go/parser"
	"go/token"
	"math"
	"os"
	"reflect"
	"slices"
	"strconv"
	"strings"
	"sync"
	"testing"

	"loop.example/g00672/impl"
)

// face has each exported function, and of what kinds its arguments are: the words of kinds.
var face = []struct {
	name  string
	f     any
	takes string
}{
	{"WideOk", impl.WideOk, "wide"},
	{"WideOf", impl.WideOf, "number"},
	{"WideSmall", impl.WideSmall, "wide"},
	{"WideAdd", impl.WideAdd, "wide wide"},
	{"WideMul", impl.WideMul, "wide wide"},
	{"WideNegated", impl.WideNegated, "wide"},
	{"WideShifted", impl.WideShifted, "wide shift"},
	{"WideCmp", impl.WideCmp, "wide wide"},
	{"BitLen", impl.BitLen, "wide"},
	{"LowZeros", impl.LowZeros, "wide"},
	{"WideText", impl.WideText, "wide"},
	{"ReadWide", impl.ReadWide, "wideText"},
	{"FloatOk", impl.FloatOk, "form float"},
	{"ClassOf", impl.ClassOf, "form float"},
	{"PartsOf", impl.PartsOf, "form float"},
	{"FromParts", impl.FromParts, "form parts"},
	{"OrderOf", impl.OrderOf, "form float"},
	{"CompareFloats", impl.CompareFloats, "form float float"},
	{"NextUp", impl.NextUp, "form float"},
	{"NextDown", impl.NextDown, "form float"},
	{"UnitsOf", impl.UnitsOf, "form float"},
	{"NaNOf", impl.NaNOf, "form"},
	{"InfOf", impl.InfOf, "form sign"},
	{"GreatestOf", impl.GreatestOf, "form sign"},
	{"LeastOf", impl.LeastOf, "form sign"},
	{"ZeroOf", impl.ZeroOf, "form sign"},
	{"Negated", impl.Negated, "form float"},
	{"Absolute", impl.Absolute, "form float"},
	{"ModeOk", impl.ModeOk, "mode"},
	{"Rounded", impl.Rounded, "form mode wide exponent"},
	{"ExactFloat", impl.ExactFloat, "form wide exponent"},
	{"Converted", impl.Converted, "form form mode float"},
	{"FloatAdd", impl.FloatAdd, "form mode float float"},
	{"FloatSub", impl.FloatSub, "form mode float float"},
	{"FloatMul", impl.FloatMul, "form mode float float"},
	{"FloatFma", impl.FloatFma, "form mode float float float"},
	{"FloatInt", impl.FloatInt, "form mode float"},
	{"FloatScaled", impl.FloatScaled, "form mode float exponent"},
	{"FloatText", impl.FloatText, "form float"},
	{"ReadFloat", impl.ReadFloat, "form floatText"},
	{"FloatHex", impl.FloatHex, "form float"},
	{"ReadHex", impl.ReadHex, "form floatHex"},
	{"AugAdd", impl.AugAdd, "form float float"},
	{"AugSub", impl.AugSub, "form float float"},
	{"AugMul", impl.AugMul, "form float float"},
	{"AccOk", impl.AccOk, "acc"},
	{"AccNew", impl.AccNew, "form"},
	{"AccAdd", impl.AccAdd, "acc float"},
	{"AccMul", impl.AccMul, "acc float float"},
	{"AccMerge", impl.AccMerge, "acc acc"},
	{"AccNegated", impl.AccNegated, "acc"},
	{"AccRound", impl.AccRound, "acc mode"},
	{"VectorOk", impl.VectorOk, "form vector"},
	{"SumOf", impl.SumOf, "form mode vector"},
	{"SumAbs", impl.SumAbs, "form mode vector"},
	{"Dot", impl.Dot, "form mode vector vector"},
	{"SumSquare", impl.SumSquare, "form mode vector"},
	{"SeqSum", impl.SeqSum, "form mode vector"},
	{"PairSum", impl.PairSum, "form mode vector"},
	{"OrderedSum", impl.OrderedSum, "form mode vector picks"},
	{"KahanSum", impl.KahanSum, "form vector"},
	{"DoubledSum", impl.DoubledSum, "form vector"},
	{"ErrorOf", impl.ErrorOf, "form vector float"},
	{"TopOf", impl.TopOf, "form float"},
	{"DigitOf", impl.DigitOf, "form float place"},
	{"BinOk", impl.BinOk, "binned"},
	{"BinNew", impl.BinNew, "form bins"},
	{"BinAdd", impl.BinAdd, "binned float"},
	{"BinMerge", impl.BinMerge, "binned binned"},
	{"BinRound", impl.BinRound, "binned mode"},
	{"BinSum", impl.BinSum, "form mode bins vector"},
	{"Split", impl.Split, "form float"},
	{"ScaledProd", impl.ScaledProd, "form vector"},
	{"ProdExact", impl.ProdExact, "form vector"},
	{"MachineOk", impl.MachineOk, "machine"},
	{"MachineNew", impl.MachineNew, "count grain workers"},
	{"MachineStep", impl.MachineStep, "machine pair"},
	{"MachineRun", impl.MachineRun, "machine pairs"},
	{"Halted", impl.Halted, "machine"},
	{"TaskCount", impl.TaskCount, "count grain"},
	{"SharesOf", impl.SharesOf, "dids workers"},
	{"ParSum", impl.ParSum, "form mode op vector vector plan"},
	{"ParBins", impl.ParBins, "form mode bins vector plan"},
	{"MergeAll", impl.MergeAll, "accs picks"},
	{"RoundRobin", impl.RoundRobin, "count grain workers"},
	{"VectorBytes", impl.VectorBytes, "form vector"},
	{"ReadVector", impl.ReadVector, "bytes"},
	{"Shuffled", impl.Shuffled, "vector picks"},
	{"Turned", impl.Turned, "vector"},
	{"RunScript", impl.RunScript, "script"},
}

// giver gives arguments that go together: of one format, and lists of one length.
type giver struct {
	d    *dice
	f    form
	n    int
	some map[string][]any
}

// anyOf leaves out what has far too long lists: that would take too long to look at so often.
func anyOf[T any](l ...[]T) []any {
	var all []any
	for _, x := range slices.Concat(l...) {
		size := uintptr(0)
		for _, s := range stretchesOf(reflect.ValueOf(x)) {
			size += s.to - s.from
		}
		if size < 20000 {
			all = append(all, x)
		}
	}
	return all
}

// giverOf keeps the lists that are long to make.
func giverOf(f form, d *dice) *giver {
	return &giver{d: d, f: f, some: map[string][]any{
		"wide":    anyOf(rightWides(), rightWides(), wrongWides()),
		"acc":     anyOf(f.rightAccs(), f.rightAccs(), f.wrongAccs()),
		"binned":  anyOf(f.rightBins(), f.rightBins(), f.wrongBins()),
		"machine": anyOf(rightMachines(), rightMachines(), wrongMachines()),
		"float":   anyOf(f.floats(), f.floats(), f.corners()),
	}}
}

func (g *giver) number(from int64, to int64) int64 {
	if g.d.below(15) == 0 {
		l := []int64{-1, 0, 1, math.MinInt64, math.MaxInt64, 1 << 32, from - 1, to + 1}
		return l[g.d.below(len(l))]
	}
	return from + int64(g.d.below(int(to-from+1)))
}

// float is now and then no float of the format.
func (g *giver) float() uint64 {
	if g.d.below(20) == 0 {
		return g.d.next()
	}
	if g.d.below(3) == 0 {
		return g.f.scaled(int64(1+g.d.below(1<<20)), int64(g.d.below(40)-30)) | g.d.next()&g.f.sign
	}
	return g.some["float"][g.d.below(len(g.some["float"]))].(uint64)
}

func (g *giver) vector() []uint64 {
	l := g.f.mixed(g.d, g.n)
	if g.n > 0 && g.d.below(12) == 0 {
		l[g.d.below(g.n)] = g.float()
	}
	return l
}

func (g *giver) accs() []impl.Acc {
	var l []impl.Acc
	for range 1 + g.d.below(9) {
		a := g.some["acc"][g.d.below(len(g.some["acc"]))].(impl.Acc)
		if g.d.below(6) > 0 {
			a, _ = impl.AccMul(impl.AccNew(g.f.fm), g.f.one(), g.float())
		}
		l = append(l, a)
	}
	return l
}

func (g *giver) plan() impl.Plan {
	workers, grain := 1+int64(g.d.below(impl.MaxWorkers)), 1+int64(g.d.below(4))
	p := impl.Plan{Workers: workers, Grain: grain, Picks: impl.RoundRobin(int64(g.n), grain, workers), Merges: anyPicks(g.d, g.d.below(20))}
	switch g.d.below(12) {
	case 0:
		p.Workers = g.number(1, impl.MaxWorkers)
	case 1:
		p.Picks = p.Picks[:len(p.Picks)/2]
	case 2:
		p.Picks = append(anyPairs(g.d, 30), p.Picks...)
	}
	return p
}

func (g *giver) dids() []impl.Did {
	m, _ := impl.MachineNew(int64(min(g.n, 40)), 1+int64(g.d.below(3)), 1+int64(g.d.below(5)))
	_, dids, _ := impl.MachineRun(m, anyPairs(g.d, 60))
	return dids
}

// oneOf gives one of the texts, or now and then something that is like none of them.
func (g *giver) oneOf(right string) string {
	if g.d.below(8) > 0 {
		return right
	}
	l := []string{"", "x", "0", right + "0", "\xff", strings.ToUpper(right), right[len(right)/2:], " "}
	return l[g.d.below(len(l))]
}

// text is of that kind, or not ok where the kind is none of texts.
func (g *giver) text(kind string) (string, bool) {
	w := g.some["wide"][g.d.below(len(g.some["wide"]))].(impl.Wide)
	switch kind {
	case "wideText":
		return g.oneOf(impl.WideText(w)), true
	case "floatText":
		return g.oneOf(impl.FloatText(g.f.fm, g.float())), true
	case "floatHex":
		return g.oneOf(impl.FloatHex(g.f.fm, g.float())), true
	case "bytes":
		return g.oneOf(impl.VectorBytes(g.f.fm, g.vector())), true
	case "script":
		return g.oneOf(lines(drawnScript(g.d, 30)...)), true
	}
	return "", false
}

// listed is of that kind, or nil where the kind is none of lists.
func (g *giver) listed(kind string) any {
	switch kind {
	case "vector":
		return g.vector()
	case "picks":
		return anyPicks(g.d, g.d.below(2*g.n+2))
	case "pairs":
		return anyPairs(g.d, g.d.below(70))
	case "dids":
		return g.dids()
	case "accs":
		return g.accs()
	case "plan":
		return g.plan()
	case "wide", "acc", "binned", "machine":
		return g.some[kind][g.d.below(len(g.some[kind]))]
	}
	return nil
}

func (g *giver) give(kind string) any {
	if s, ok := g.text(kind); ok {
		return s
	}
	if l := g.listed(kind); l != nil {
		return l
	}
	switch kind {
	case "form":
		if g.d.below(15) == 0 {
			return noFormats[g.d.below(len(noFormats))]
		}
		return g.f.fm
	case "float":
		return g.float()
	case "sign":
		return g.d.below(2) == 0
	case "pair":
		return anyPairs(g.d, 1)[0]
	case "parts":
		return impl.Parts{Neg: g.d.below(2) == 0, M: g.number(0, 1<<24), E: g.number(-160, 160)}
	}
	ends := map[string][2]int64{
		"number": {-1 << 40, 1 << 40}, "shift": {-10000, 10000}, "exponent": {-300, 300}, "mode": {0, 5}, "bins": {2, 4}, "place": {0, 17},
		"count": {0, impl.MaxVector}, "grain": {1, 40}, "workers": {1, impl.MaxWorkers}, "op": {0, 3},
	}
	e, ok := ends[kind]
	if !ok {
		panic("no kind: " + kind)
	}
	return g.number(e[0], e[1])
}

const spareRoom = 70

// marked is a value that is not 0 anywhere.
func marked(t reflect.Type) reflect.Value {
	v := reflect.New(t).Elem()
	switch t.Kind() {
	case reflect.Struct:
		for i := range t.NumField() {
			v.Field(i).Set(marked(t.Field(i).Type))
		}
	case reflect.Bool:
		v.SetBool(true)
	case reflect.Int64:
		v.SetInt(spareMark)
	case reflect.Uint8, reflect.Uint32, reflect.Uint64:
		v.SetUint(spareMark)
	case reflect.Slice:
	default:
		panic("no mark for " + t.String())
	}
	return v
}

// remade is the same value in memory of its own; each list has what list gives for it.
func remade(v reflect.Value, list func(v reflect.Value) reflect.Value) reflect.Value {
	out := reflect.New(v.Type()).Elem()
	switch v.Kind() {
	case reflect.Struct:
		for i := range v.NumField() {
			out.Field(i).Set(remade(v.Field(i), list))
		}
	case reflect.Slice:
		out.Set(list(v))
	default:
		out.Set(v)
	}
	return out
}

// roomyList has marked spare room behind it.
func roomyList(v reflect.Value) reflect.Value {
	n := v.Len()
	room := reflect.MakeSlice(v.Type(), n+spareRoom, n+spareRoom)
	reflect.Copy(room, listOf(v, roomyList))
	mark := marked(v.Type().Elem())
	for i := range spareRoom {
		room.Index(n + i).Set(mark)
	}
	return room.Slice(0, n)
}

// wholeList has its spare room as part of it, so that this is compared, too.
func wholeList(v reflect.Value) reflect.Value {
	return listOf(v.Slice(0, v.Cap()), wholeList)
}

// sameList has what the list has, but an empty one is never nil.
func sameList(v reflect.Value) reflect.Value {
	return listOf(v, sameList)
}

func listOf(v reflect.Value, inner func(v reflect.Value) reflect.Value) reflect.Value {
	out := reflect.MakeSlice(v.Type(), v.Len(), v.Len())
	if !hasList(v.Type().Elem()) {
		reflect.Copy(out, v)
		return out
	}
	for i := range v.Len() {
		out.Index(i).Set(remade(v.Index(i), inner))
	}
	return out
}

// hasList is false for what is copied as a whole: long lists are of such things.
func hasList(t reflect.Type) bool {
	switch t.Kind() {
	case reflect.Struct:
		for i := range t.NumField() {
			if hasList(t.Field(i).Type) {
				return true
			}
		}
	case reflect.Slice:
		return true
	}
	return false
}

func remadeAll(l []reflect.Value, list func(v reflect.Value) reflect.Value) []reflect.Value {
	var out []reflect.Value
	for _, v := range l {
		out = append(out, remade(v, list))
	}
	return out
}

func allAre(a []reflect.Value, b []reflect.Value) bool {
	return slices.EqualFunc(a, b, func(v reflect.Value, w reflect.Value) bool { return reflect.DeepEqual(v.Interface(), w.Interface()) })
}

// stretch is the memory of one list, with its spare room.
type stretch struct {
	from uintptr
	to   uintptr
}

func stretchesOf(v reflect.Value) []stretch {
	var l []stretch
	switch v.Kind() {
	case reflect.Struct:
		for i := range v.NumField() {
			l = append(l, stretchesOf(v.Field(i))...)
		}
	case reflect.Slice:
		if v.Cap() > 0 {
			l = append(l, stretch{v.Pointer(), v.Pointer() + uintptr(v.Cap())*v.Type().Elem().Size()})
		}
		for i := 0; hasList(v.Type().Elem()) && i < v.Len(); i++ {
			l = append(l, stretchesOf(v.Index(i))...)
		}
	}
	return l
}

// shareNone is true when no two lists lie in the same memory, not even with their spare room.
func shareNone(values ...[]reflect.Value) bool {
	var l []stretch
	for _, v := range slices.Concat(values...) {
		l = append(l, stretchesOf(v)...)
	}
	slices.SortFunc(l, func(a stretch, b stretch) int { return int(a.from) - int(b.from) })
	for i := 1; i < len(l); i++ {
		if l[i].from < l[i-1].to {
			return false
		}
	}
	return true
}

// overwrite puts marks into all lists of an answer, with their spare room: what else lies there shows.
func overwrite(v reflect.Value) {
	switch v.Kind() {
	case reflect.Struct:
		for i := range v.NumField() {
			overwrite(v.Field(i))
		}
	case reflect.Slice:
		for i := 0; hasList(v.Type().Elem()) && i < v.Len(); i++ {
			overwrite(v.Index(i))
		}
		all, mark := v.Slice(0, v.Cap()), marked(v.Type().Elem())
		for i := range all.Len() {
			all.Index(i).Set(mark)
		}
	}
}

// call is one that was made, and what it answered.
type call struct {
	name   string
	f      reflect.Value
	args   []reflect.Value
	answer []reflect.Value
}

// callOf calls twice, and looks at the arguments, at the answers, and at whose memory they have.
func callOf(t *testing.T, name string, f reflect.Value, args []reflect.Value) call {
	t.Helper()
	were := remadeAll(args, wholeList)
	first := f.Call(args)
	c := call{name, f, args, remadeAll(first, sameList)}
	again := f.Call(args)
	if !allAre(remadeAll(again, sameList), c.answer) {
		t.Errorf("%s answers something else the second time", name)
	}
	if !shareNone(args, first, again) {
		t.Errorf("%s: an answer shares memory with an argument, with another answer, or a list with another one", name)
	}
	for _, v := range first {
		overwrite(v)
	}
	if !allAre(remadeAll(args, wholeList), were) {
		t.Errorf("%s wrote into an argument, or behind it", name)
	}
	return c
}

// callsOf is one call of each function, now and then with lists that have no room behind them.
func callsOf(t *testing.T, g *giver) []call {
	t.Helper()
	var l []call
	for _, x := range face {
		g.n = []int{0, 1, 2, 3, 5, 9, 17, 40, 41, impl.MaxVector, impl.MaxVector + 1}[g.d.below(11)]
		list := roomyList
		if g.d.below(4) == 0 {
			list = sameList
		}
		var args []reflect.Value
		for _, kind := range strings.Fields(x.takes) {
			args = append(args, remade(reflect.ValueOf(g.give(kind)), list))
		}
		l = append(l, callOf(t, x.name, reflect.ValueOf(x.f), args))
	}
	return l
}

func checkAgain(t *testing.T, l []call) {
	for _, c := range l {
		if !allAre(remadeAll(c.f.Call(c.args), sameList), c.answer) {
			t.Errorf("%s answers something else after other calls", c.name)
		}
	}
}

// The calls of each round are made once more from behind, and once more many at a time.
func TestPromise16OfAllFunctions(t *testing.T) {
	answers := map[string]map[string]bool{}
	for _, f := range forms {
		g := giverOf(f, &dice{171})
		for range 120 {
			l := callsOf(t, g)
			slices.Reverse(l)
			checkAgain(t, l)
			var all sync.WaitGroup
			for part := range slices.Chunk(l, 15) {
				all.Go(func() { checkAgain(t, part) })
			}
			all.Wait()
			for _, c := range l {
				if answers[c.name] == nil {
					answers[c.name] = map[string]bool{}
				}
				answers[c.name][shown(c.answer)] = true
			}
		}
	}
	for _, x := range face {
		if len(answers[x.name]) < 2 {
			t.Errorf("the calls of %s have but one answer: they show nothing", x.name)
		}
	}
}

func shown(l []reflect.Value) string {
	var out strings.Builder
	for _, v := range l {
		show(&out, v)
	}
	return out.String()
}

func show(out *strings.Builder, v reflect.Value) {
	switch v.Kind() {
	case reflect.Struct:
		for i := range v.NumField() {
			show(out, v.Field(i))
		}
	case reflect.Slice:
		for i := range v.Len() {
			show(out, v.Index(i))
		}
	case reflect.Int64:
		out.WriteString(strconv.FormatInt(v.Int(), 10))
	case reflect.Uint32, reflect.Uint64:
		out.WriteString(strconv.FormatUint(v.Uint(), 10))
	case reflect.Bool:
		out.WriteString(strconv.FormatBool(v.Bool()))
	default:
		out.WriteString(v.String())
	}
	out.WriteByte(';')
}

// No exported function is missing above, and no type has an exported method.
func TestPromise16LeavesOutNone(t *testing.T) {
	var names []string
	for _, x := range face {
		names = append(names, x.name)
	}
	files, err := os.ReadDir("../impl")
	if err != nil {
		t.Fatal(err)
	}
	var exported []string
	for _, file := range files {
		a, err := parser.ParseFile(token.NewFileSet(), "../impl/"+file.Name(), nil, 0)
		if err != nil {
			t.Fatal(err)
		}
		for _, d := range a.Decls {
			if f, ok := d.(*ast.FuncDecl); ok && f.Name.IsExported() && (f.Recv == nil || f.Name.Name != "Error" && f.Name.Name != "Unwrap") {
				exported = append(exported, f.Name.Name)
			}
		}
	}
	slices.Sort(names)
	slices.Sort(exported)
	if !slices.Equal(names, exported) {
		t.Errorf("the program has %v, these tests call %v", exported, names)
	}
}
