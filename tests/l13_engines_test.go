package tests

import (
	"math"
	"runtime"
	"slices"
	"sync"
	"testing"
	"time"

	"loop.example/g00672/impl"
)

// parOps: what each op must come to, without workers.
var parOps = []struct {
	name  string
	op    int64
	alone func(fm int64, mode int64, xs []uint64, ys []uint64) impl.Res
}{
	{"OpSum", impl.OpSum, func(fm int64, mode int64, xs []uint64, _ []uint64) impl.Res { return impl.SumOf(fm, mode, xs) }},
	{"OpAbs", impl.OpAbs, func(fm int64, mode int64, xs []uint64, _ []uint64) impl.Res { return impl.SumAbs(fm, mode, xs) }},
	{"OpDot", impl.OpDot, impl.Dot},
	{"OpSquare", impl.OpSquare, func(fm int64, mode int64, xs []uint64, _ []uint64) impl.Res { return impl.SumSquare(fm, mode, xs) }},
}

var noOps = []int64{-1, 4, 5, -4, 1 << 32, 1<<32 + 1, math.MinInt64, math.MaxInt64}

// checkPar holds what workers make of two vectors, by each op and by bins, against what it is without them.
func checkPar(t *testing.T, f form, mode int64, xs []uint64, ys []uint64, plan impl.Plan) {
	t.Helper()
	for _, o := range parOps {
		checkRes(t, o.name, f, mode, impl.ParSum(f.fm, mode, o.op, xs, ys, plan), o.alone(f.fm, mode, xs, ys))
	}
	for _, k := range binCounts {
		checkRes(t, "by bins", f, mode, impl.ParBins(f.fm, mode, k, xs, plan), impl.BinSum(f.fm, mode, k, xs))
	}
}

// checkNoPar: all of them tell the code, and nothing else.
func checkNoPar(t *testing.T, what string, f form, xs []uint64, ys []uint64, plan impl.Plan, code int64) {
	t.Helper()
	for _, mode := range modes {
		for _, o := range parOps {
			checkRes(t, what+", "+o.name, f, mode, impl.ParSum(f.fm, mode, o.op, xs, ys, plan), impl.Res{Code: code})
		}
		for _, k := range binCounts {
			checkRes(t, what+", by bins", f, mode, impl.ParBins(f.fm, mode, k, xs, plan), impl.Res{Code: code})
		}
	}
}

// haltingPicks are drawn until a new machine has no task any more; the last one of them runs the last task.
func haltingPicks(t *testing.T, d *dice, n int64, grain int64, workers int64) []impl.Pick {
	t.Helper()
	m := newMachine(t, n, grain, workers)
	var l []impl.Pick
	for !impl.Halted(m) {
		picks := anyPairs(d, 200)
		next, dids, ok := impl.MachineRun(m, picks)
		if !ok || len(l) > impl.MaxPicks {
			t.Fatalf("%v is not halted by %d picks", m, len(l))
		}
		m, l = next, append(l, picks[:len(dids)]...)
	}
	return l
}

// drawnPlan: so few merges that some are missing, or more than are needed.
func drawnPlan(t *testing.T, d *dice, n int, grain int64, workers int64) impl.Plan {
	t.Helper()
	return impl.Plan{
		Workers: workers,
		Grain:   grain,
		Picks:   haltingPicks(t, d, int64(n), grain, workers),
		Merges:  anyPicks(d, d.below(24)),
	}
}

// busy is how many workers ran anything by the plan.
func busy(plan impl.Plan, n int) int {
	m, _ := impl.MachineNew(int64(n), plan.Grain, plan.Workers)
	_, dids, _ := impl.MachineRun(m, plan.Picks)
	shares := impl.SharesOf(dids, plan.Workers)
	return len(slices.DeleteFunc(shares, func(d impl.Deck) bool { return len(d.Tasks) == 0 }))
}

func TestNumbersOfEngines(t *testing.T) {
	if impl.OpSum != 0 || impl.OpAbs != 1 || impl.OpDot != 2 || impl.OpSquare != 3 {
		t.Error("a constant of chapter 13")
	}
}

// mixed: a vector, now and then with a float that is not finite, or of zeros alone.
func (f form) mixed(d *dice, n int) []uint64 {
	l := f.finites(d, n)
	corners := f.corners()
	switch {
	case n == 0:
	case d.below(5) == 0:
		l[d.below(n)] = corners[d.below(len(corners))]
	case d.below(9) == 0:
		l = filled(n, f.sign)
		l[d.below(n)] = uint64(d.below(2)) * f.sign
	}
	return l
}

func TestPromise13OfManyPlans(t *testing.T) {
	for _, f := range forms {
		d := &dice{131}
		most := 0
		for workers := int64(1); workers <= impl.MaxWorkers; workers++ {
			for i := range 12 {
				n := d.below(40)
				grains := []int64{1, 2, 3, int64(1 + d.below(9)), int64(max(1, n-1)), int64(max(1, n)), impl.MaxVector}
				plan := drawnPlan(t, d, n, grains[i%7], workers)
				most = max(most, busy(plan, n))
				checkPar(t, f, modes[d.below(6)], f.mixed(d, n), f.mixed(d, n), plan)
			}
		}
		if most < 8 {
			t.Errorf("no more than %d workers ran anything", most)
		}
	}
}

func TestPromise13OfMaxVector(t *testing.T) {
	for _, f := range forms {
		d := &dice{132}
		for i, grain := range []int64{1, 2, 3, 7, 20, 74, 75, 149, 150, 151, 299, 300} {
			xs, ys := f.mixed(d, impl.MaxVector), f.mixed(d, impl.MaxVector)
			for _, workers := range []int64{1, int64(2 + d.below(14)), impl.MaxWorkers} {
				plan := drawnPlan(t, d, impl.MaxVector, grain, workers)
				if i == 0 && workers > 1 && busy(plan, impl.MaxVector) < 2 {
					t.Error("nothing was stolen")
				}
				checkPar(t, f, modes[d.below(6)], xs, ys, plan)
			}
		}
	}
}

// All grains, of machines that go turn by turn.
func TestPromise13OfAllGrains(t *testing.T) {
	d := &dice{133}
	for _, f := range forms {
		xs, ys := f.finites(d, 37), f.finites(d, 37)
		for grain := int64(1); grain <= impl.MaxVector; grain++ {
			workers := 1 + grain%impl.MaxWorkers
			plan := impl.Plan{Workers: workers, Grain: grain, Picks: impl.RoundRobin(37, grain, workers), Merges: anyPicks(d, int(workers)-1)}
			o := parOps[grain%4]
			checkRes(t, o.name, f, 0, impl.ParSum(f.fm, 0, o.op, xs, ys, plan), o.alone(f.fm, 0, xs, ys))
			k := binCounts[grain%3]
			checkRes(t, "by bins", f, 0, impl.ParBins(f.fm, 0, k, xs, plan), impl.BinSum(f.fm, 0, k, xs))
		}
	}
}

// The exact sum, rounded once, and the bins by the words of their chapter: both apart from the program.
func TestPromise13AsReckonedApart(t *testing.T) {
	for _, f := range forms {
		d := &dice{134}
		for i := range 60 {
			n := 1 + d.below(30)
			xs, ys := f.mixed(d, n), f.mixed(d, n)
			mode := modes[i%6]
			plan := drawnPlan(t, d, n, int64(1+d.below(4)), int64(1+d.below(16)))
			for j, s := range oneVector {
				var terms []term
				for _, x := range xs {
					terms = append(terms, s.term(f, x))
				}
				op := []int64{impl.OpSum, impl.OpAbs, impl.OpSquare}[j]
				checkRes(t, s.name, f, mode, impl.ParSum(f.fm, mode, op, xs, nil, plan), f.res(mode, terms))
			}
			checkRes(t, "Dot", f, mode, impl.ParSum(f.fm, mode, impl.OpDot, xs, ys, plan), f.res(mode, factors(xs, ys)))
			k := binCounts[i%3]
			want, told := f.binRounded(mode, f.binned(k, xs))
			checkRes(t, "BinSum", f, mode, impl.ParBins(f.fm, mode, k, xs, plan), impl.Res{Bits: want, Flags: told})
		}
	}
}

func TestPromise13OfSpecialVectors(t *testing.T) {
	for _, f := range forms {
		d := &dice{135}
		minus, quiet, signalling := f.sign, f.nan+1, f.inf+1
		some := f.finites(d, 9)
		vectors := [][]uint64{
			nil, {}, {0}, {minus}, {f.one()}, {f.inf}, {minus | f.inf}, {quiet}, {signalling}, {f.greatest}, {minus | 1},
			filled(9, 0), filled(9, minus), append(filled(8, minus), 0), append(filled(8, 0), minus), {minus, 0, minus, 0, minus},
			filled(impl.MaxVector, 0), filled(impl.MaxVector, minus), append(filled(impl.MaxVector-1, minus), 0),
			append(some, f.inf), append(some, minus|f.inf), append(some, f.inf, minus, minus|f.inf), append(some, minus|quiet), append(some, minus|signalling, quiet),
			{f.inf, quiet, minus | f.inf}, {quiet, signalling, f.inf, 0}, {0, minus | f.inf, 0}, filled(9, f.inf), filled(9, minus|f.inf), filled(9, signalling),
			filled(9, f.greatest), append(filled(5, f.greatest), filled(5, minus|f.greatest)...), {f.one(), minus | f.one()}, {1, minus | 1, 1},
			filled(impl.MaxVector, f.greatest), filled(impl.MaxVector, minus|1),
		}
		for _, xs := range vectors {
			n := len(xs)
			for _, ys := range [][]uint64{xs, filled(n, 0), filled(n, minus|f.one()), shuffledBy(d, xs)} {
				plan := drawnPlan(t, d, n, int64(1+d.below(5)), int64(1+d.below(16)))
				for _, mode := range modes {
					checkPar(t, f, mode, xs, ys, plan)
				}
			}
		}
	}
}

func TestParSumByTable(t *testing.T) {
	for _, f := range forms {
		one, minus, large := f.one(), f.sign, f.scaled(1, 100)
		// Each worker has one place: the terms of one alone are far beyond what they come to together.
		plan := impl.Plan{Workers: 3, Grain: 1, Picks: []impl.Pick{{}, {Worker: 1}, {Worker: 2, Victim: 1}, {Worker: 1}, {}}}
		if busy(plan, 3) != 3 {
			t.Fatal("each of three workers runs one place")
		}
		for _, r := range []struct {
			name   string
			op     int64
			mode   int64
			xs, ys []uint64
			want   impl.Res
		}{
			{"cancelled", impl.OpSum, 0, []uint64{large, one, minus | large}, nil, impl.Res{Bits: one}},
			{"cancelled all", impl.OpSum, impl.RmDown, []uint64{large, 0, minus | large}, nil, impl.Res{Bits: minus}},
			{"beyond and back", impl.OpSum, 0, []uint64{f.greatest, f.greatest, minus | f.greatest}, nil, impl.Res{Bits: f.greatest}},
			{"overflow", impl.OpSum, impl.RmZero, filled(3, f.greatest), nil, impl.Res{Bits: f.greatest, Flags: 5}},
			{"zeros below 0", impl.OpSum, 0, filled(3, minus), nil, impl.Res{Bits: minus}},
			{"with one above 0", impl.OpSum, 0, []uint64{minus, minus, 0}, nil, impl.Res{}},
			{"infinities that are unlike", impl.OpSum, 0, []uint64{f.inf, one, minus | f.inf}, nil, impl.Res{Bits: f.nan, Flags: 8}},
			{"a quiet NaN", impl.OpSum, 0, []uint64{one, f.all, f.inf}, nil, impl.Res{Bits: f.nan}},
			{"a signalling NaN", impl.OpSum, 0, []uint64{one, f.nan, f.inf + 1}, nil, impl.Res{Bits: f.nan, Flags: 8}},
			{"without signs", impl.OpAbs, 0, []uint64{minus | one, one, 0}, nil, impl.Res{Bits: f.scaled(2, 0)}},
			{"zeros without signs", impl.OpAbs, 0, filled(3, minus), nil, impl.Res{}},
			{"products that cancel", impl.OpDot, 0, []uint64{f.greatest, one, f.greatest}, []uint64{f.greatest, one, minus | f.greatest}, impl.Res{Bits: one}},
			{"products that are invalid", impl.OpDot, 0, []uint64{one, f.inf, one}, []uint64{one, 0, one}, impl.Res{Bits: f.nan, Flags: 8}},
			{"products of zeros below 0", impl.OpDot, 0, []uint64{minus, one, 0}, []uint64{0, minus, minus | one}, impl.Res{Bits: minus}},
			{"squares", impl.OpSquare, 0, []uint64{f.scaled(-3, 0), f.scaled(4, 0), f.scaled(12, 0)}, nil, impl.Res{Bits: f.scaled(169, 0)}},
			{"squares of the least", impl.OpSquare, impl.RmUp, filled(3, minus|1), nil, impl.Res{Bits: 1, Flags: 3}},
		} {
			for _, merges := range [][]int64{nil, {0}, {1}, {-1, 5}, {math.MinInt64, math.MaxInt64, 7}} {
				plan.Merges = merges
				checkRes(t, r.name, f, r.mode, impl.ParSum(f.fm, r.mode, r.op, r.xs, r.ys, plan), r.want)
			}
		}
	}
}

func TestPromise13BinsInOtherOrders(t *testing.T) {
	for _, f := range forms {
		d := &dice{136}
		for i := range 40 {
			n := 1 + d.below(40)
			if i%20 == 0 {
				n = impl.MaxVector
			}
			xs := f.binTerms(d, n)
			k, mode := binCounts[i%3], modes[i%6]
			want := impl.BinSum(f.fm, mode, k, xs)
			turned := slices.Clone(xs)
			slices.Reverse(turned)
			for _, l := range [][]uint64{xs, turned, shuffledBy(d, xs), shuffledBy(d, xs)} {
				plan := drawnPlan(t, d, n, int64(1+d.below(6)), int64(1+d.below(16)))
				checkRes(t, "by bins", f, mode, impl.ParBins(f.fm, mode, k, l, plan), want)
			}
		}
	}
}

func TestPicksThatEndTooEarly(t *testing.T) {
	for _, f := range forms {
		d := &dice{137}
		for i := range 24 {
			n := 1 + d.below(20)
			if i == 0 {
				n = impl.MaxVector
			}
			plan := drawnPlan(t, d, n, int64(1+d.below(5)), int64(1+d.below(16)))
			xs, ys := f.mixed(d, n), f.mixed(d, n)
			all := plan.Picks
			checkPar(t, f, 0, xs, ys, plan)
			for _, left := range []int{len(all) - 1, d.below(len(all)), 0} {
				plan.Picks = all[:left]
				checkNoPar(t, "too few picks", f, xs, ys, plan, impl.ReOpen)
			}
			plan.Picks = nil
			checkNoPar(t, "no picks", f, xs, ys, plan, impl.ReOpen)
			// Those behind the last one that is needed are not looked at.
			plan.Picks = append(slices.Clone(all), anyPairs(d, 1+d.below(50))...)
			checkPar(t, f, 0, xs, ys, plan)
		}
	}
}

func TestPicksThatAreIdle(t *testing.T) {
	for _, f := range forms {
		// The second worker of three never finds anything, as it steals from itself.
		plan := impl.Plan{Workers: 3, Grain: 1, Picks: slices.Repeat([]impl.Pick{{Worker: 1, Victim: 1}}, impl.MaxPicks)}
		checkNoPar(t, "idle picks", f, filled(2, 0), filled(2, 0), plan, impl.ReOpen)
		for i := range 3 {
			plan.Picks[impl.MaxPicks-1-i] = impl.Pick{}
		}
		checkPar(t, f, 0, filled(2, f.one()), filled(2, f.one()), plan)
		checkNoPar(t, "one place too many", f, filled(3, 0), filled(3, 0), plan, impl.ReOpen)
	}
}

// Where there is no place there is nothing to run, whatever the picks are.
func TestParOfNoFloat(t *testing.T) {
	for _, f := range forms {
		d := &dice{138}
		for _, workers := range []int64{1, 2, 3, impl.MaxWorkers} {
			for _, n := range []int{0, 1, 9, impl.MaxPicks} {
				for _, grain := range []int64{1, impl.MaxVector} {
					plan := impl.Plan{Workers: workers, Grain: grain, Picks: anyPairs(d, n), Merges: anyPicks(d, n)}
					checkNoPar(t, "no float", f, nil, nil, plan, impl.ReOk)
					checkNoPar(t, "no float", f, []uint64{}, []uint64{}, plan, impl.ReOk)
				}
			}
		}
	}
}

func TestMaxPicksOfEach(t *testing.T) {
	for _, f := range forms {
		d := &dice{139}
		for _, workers := range []int64{1, 2, 5, impl.MaxWorkers} {
			plan := drawnPlan(t, d, impl.MaxVector, 3, workers)
			plan.Picks = append(plan.Picks, anyPairs(d, impl.MaxPicks-len(plan.Picks))...)
			plan.Merges = anyPicks(d, impl.MaxPicks)
			xs, ys := f.finites(d, impl.MaxVector), f.finites(d, impl.MaxVector)
			checkPar(t, f, 0, xs, ys, plan)
			more := plan
			more.Picks = append(slices.Clone(plan.Picks), impl.Pick{})
			checkNoPar(t, "a pick too many", f, xs, ys, more, impl.RePlan)
			more = plan
			more.Merges = append(slices.Clone(plan.Merges), 0)
			checkNoPar(t, "a merge too many", f, xs, ys, more, impl.RePlan)
		}
	}
}

// As many merges as are needed, one fewer, none, and one more: places below 0 and beyond, too.
func TestMergesOfAnyNumber(t *testing.T) {
	for _, f := range forms {
		d := &dice{140}
		for workers := int64(1); workers <= impl.MaxWorkers; workers++ {
			xs, ys := f.finites(d, 50), f.finites(d, 50)
			plan := drawnPlan(t, d, 50, 1, workers)
			for _, n := range []int64{0, 1, workers - 2, workers - 1, workers, workers + 1, 40} {
				plan.Merges = anyPicks(d, int(max(0, n)))
				checkPar(t, f, modes[d.below(6)], xs, ys, plan)
			}
			for _, m := range []int64{0, 1, -1, workers - 2, workers - 1, workers, -workers, math.MinInt64, math.MaxInt64} {
				plan.Merges = slices.Repeat([]int64{m}, 20)
				checkPar(t, f, modes[d.below(6)], xs, ys, plan)
			}
		}
	}
}

func TestSizesOfPlans(t *testing.T) {
	for _, f := range forms {
		xs := filled(3, f.one())
		for _, r := range []struct {
			workers, grain int64
			want           int64
		}{
			{0, 1, impl.RePlan}, {-1, 1, impl.RePlan}, {17, 1, impl.RePlan}, {18, 300, impl.RePlan}, {1 << 32, 1, impl.RePlan}, {1<<32 + 1, 1, impl.RePlan}, {math.MinInt64, 1, impl.RePlan}, {math.MaxInt64, 1, impl.RePlan},
			{1, 0, impl.RePlan}, {16, 0, impl.RePlan}, {1, -1, impl.RePlan}, {1, 301, impl.RePlan}, {16, 301, impl.RePlan}, {2, 1 << 32, impl.RePlan}, {2, 1<<32 + 1, impl.RePlan}, {2, math.MinInt64, impl.RePlan}, {2, math.MaxInt64, impl.RePlan},
			{0, 0, impl.RePlan}, {17, 301, impl.RePlan},
			{1, 1, impl.ReOk}, {16, 1, impl.ReOk}, {1, 300, impl.ReOk}, {16, 300, impl.ReOk},
		} {
			plan := impl.Plan{Workers: r.workers, Grain: r.grain, Picks: make([]impl.Pick, 5)}
			if r.want == impl.ReOk {
				checkPar(t, f, 0, xs, xs, plan)
				continue
			}
			checkNoPar(t, "sizes that are none", f, xs, xs, plan, r.want)
			checkNoPar(t, "sizes that are none, no float", f, nil, nil, plan, r.want)
			plan.Picks = nil
			checkNoPar(t, "sizes that are none, no picks", f, xs, xs, plan, r.want)
		}
		checkNoPar(t, "the zero value", f, xs, xs, impl.Plan{}, impl.RePlan)
		checkNoPar(t, "the zero value, no float", f, nil, nil, impl.Plan{}, impl.RePlan)
	}
}

const noFloat = 1 << 32 // of format 32

// plansOfRefusals: one for all of a vector at once, one with a pick too many, and one that ends too early.
func plansOfRefusals() (right impl.Plan, wrong impl.Plan, open impl.Plan) {
	right = impl.Plan{Workers: 2, Grain: impl.MaxVector, Picks: make([]impl.Pick, 1)}
	return right, impl.Plan{Workers: 2, Grain: impl.MaxVector, Picks: make([]impl.Pick, impl.MaxPicks+1)}, impl.Plan{Workers: 2, Grain: 1}
}

// Each refusal, where some of those that come behind it would hold, too.
func TestFirstReasonOfNoParSum(t *testing.T) {
	right, wrongPlan, open := plansOfRefusals()
	few, many, wrong := filled(2, 0), filled(impl.MaxVector+1, noFloat), []uint64{0, noFloat}
	for _, r := range []struct {
		fm, mode int64
		xs       []uint64
		plan     impl.Plan
		want     int64
	}{
		{33, 0, few, right, impl.ReForm}, {33, 0, many, right, impl.ReForm}, {33, 0, wrong, right, impl.ReForm}, {33, 0, few, wrongPlan, impl.ReForm}, {33, 0, few, open, impl.ReForm}, {0, 0, nil, right, impl.ReForm},
		{32, 6, few, right, impl.ReForm}, {32, -1, many, right, impl.ReForm}, {32, 6, wrong, right, impl.ReForm}, {64, 6, few, wrongPlan, impl.ReForm}, {64, 6, few, open, impl.ReForm},
		{32, 0, many, right, impl.ReMany}, {32, 0, many, wrongPlan, impl.ReMany}, {64, 0, many, open, impl.ReMany}, {64, 5, filled(impl.MaxVector+1, 0), right, impl.ReMany}, {32, 0, filled(100000, 0), wrongPlan, impl.ReMany},
		{32, 0, wrong, right, impl.ReFloat}, {32, 0, []uint64{noFloat, 0}, wrongPlan, impl.ReFloat}, {32, 0, wrong, open, impl.ReFloat}, {32, 0, filled(impl.MaxVector, noFloat), right, impl.ReFloat}, {32, 0, []uint64{1 << 63}, wrongPlan, impl.ReFloat},
		{32, 0, few, wrongPlan, impl.RePlan}, {64, 0, wrong, wrongPlan, impl.RePlan}, {32, 0, nil, wrongPlan, impl.RePlan}, {64, 5, few, impl.Plan{Workers: 17, Grain: 1}, impl.RePlan}, {64, 5, few, impl.Plan{Workers: 1}, impl.RePlan},
		{32, 0, few, open, impl.ReOpen}, {64, 0, wrong, open, impl.ReOpen}, {32, 0, filled(impl.MaxVector, 0x7fc00000), open, impl.ReOpen},
		{32, 0, few, right, impl.ReOk}, {64, 0, few, right, impl.ReOk}, {32, 5, nil, open, impl.ReOk}, {64, 0, filled(impl.MaxVector, 0), right, impl.ReOk},
	} {
		for _, o := range parOps {
			if got := impl.ParSum(r.fm, r.mode, o.op, r.xs, r.xs, r.plan); got != (impl.Res{Code: r.want}) {
				t.Errorf("%s %d mode %d of %d: %v, want %d", o.name, r.fm, r.mode, len(r.xs), got, r.want)
			}
		}
		for _, k := range binCounts {
			if got := impl.ParBins(r.fm, r.mode, k, r.xs, r.plan); got != (impl.Res{Code: r.want}) {
				t.Errorf("%d bins %d mode %d of %d: %v, want %d", k, r.fm, r.mode, len(r.xs), got, r.want)
			}
		}
		for _, op := range noOps {
			if got := impl.ParSum(r.fm, r.mode, op, r.xs, r.xs, r.plan); got != (impl.Res{Code: impl.ReForm}) {
				t.Errorf("op %d, %d mode %d of %d: %v", op, r.fm, r.mode, len(r.xs), got)
			}
		}
		for _, k := range noBinCounts {
			if got := impl.ParBins(r.fm, r.mode, k, r.xs, r.plan); got != (impl.Res{Code: impl.ReForm}) {
				t.Errorf("%d bins, %d mode %d of %d: %v", k, r.fm, r.mode, len(r.xs), got)
			}
		}
	}
}

func TestParOfNoFormatAndNoMode(t *testing.T) {
	right, _, open := plansOfRefusals()
	l := filled(3, 0x3f800000)
	check := func(fm int64, mode int64) {
		t.Helper()
		for _, plan := range []impl.Plan{right, open, {}} {
			for _, o := range parOps {
				if got := impl.ParSum(fm, mode, o.op, l, l, plan); got != (impl.Res{Code: impl.ReForm}) {
					t.Errorf("%s %d mode %d: %v", o.name, fm, mode, got)
				}
			}
			for _, k := range binCounts {
				if got := impl.ParBins(fm, mode, k, l, plan); got != (impl.Res{Code: impl.ReForm}) {
					t.Errorf("%d bins %d mode %d: %v", k, fm, mode, got)
				}
			}
		}
	}
	for _, fm := range noFormats {
		check(fm, impl.RmEven)
	}
	for _, mode := range noModes {
		check(32, mode)
		check(64, mode)
	}
}

// The second vector, which is looked at with OpDot alone.
func TestSecondVectorOfParSum(t *testing.T) {
	right, wrongPlan, open := plansOfRefusals()
	few, many, wrong := filled(2, 0), filled(impl.MaxVector+1, noFloat), []uint64{0, noFloat}
	for _, r := range []struct {
		xs, ys []uint64
		plan   impl.Plan
		want   int64 // with OpDot
		others int64
	}{
		{few, many, right, impl.ReMany, impl.ReOk}, {few, many, wrongPlan, impl.ReMany, impl.RePlan}, {few, many, open, impl.ReMany, impl.ReOpen}, {wrong, many, right, impl.ReMany, impl.ReFloat}, {nil, many, right, impl.ReMany, impl.ReOk},
		{many, nil, right, impl.ReMany, impl.ReMany}, {many, few, right, impl.ReMany, impl.ReMany}, {many, many, right, impl.ReMany, impl.ReMany},
		{few, nil, right, impl.ReLen, impl.ReOk}, {few, filled(3, 0), right, impl.ReLen, impl.ReOk}, {few, filled(1, noFloat), right, impl.ReLen, impl.ReOk}, {few, nil, wrongPlan, impl.ReLen, impl.RePlan}, {few, filled(1, 0), open, impl.ReLen, impl.ReOpen},
		{wrong, nil, right, impl.ReLen, impl.ReFloat}, {wrong, filled(3, noFloat), wrongPlan, impl.ReLen, impl.ReFloat}, {nil, few, right, impl.ReLen, impl.ReOk}, {nil, few, open, impl.ReLen, impl.ReOk},
		{few, filled(impl.MaxVector, 0), right, impl.ReLen, impl.ReOk}, {filled(impl.MaxVector, 0), few, right, impl.ReLen, impl.ReOk},
		{few, wrong, right, impl.ReFloat, impl.ReOk}, {few, []uint64{noFloat, 0}, right, impl.ReFloat, impl.ReOk}, {few, wrong, wrongPlan, impl.ReFloat, impl.RePlan}, {few, wrong, open, impl.ReFloat, impl.ReOpen},
		{wrong, few, right, impl.ReFloat, impl.ReFloat}, {wrong, few, wrongPlan, impl.ReFloat, impl.ReFloat}, {wrong, wrong, right, impl.ReFloat, impl.ReFloat},
		{few, few, right, impl.ReOk, impl.ReOk}, {few, few, wrongPlan, impl.RePlan, impl.RePlan}, {few, few, open, impl.ReOpen, impl.ReOpen}, {nil, []uint64{}, open, impl.ReOk, impl.ReOk},
	} {
		for _, o := range parOps {
			want := r.others
			if o.op == impl.OpDot {
				want = r.want
			}
			if got := impl.ParSum(32, 0, o.op, r.xs, r.ys, r.plan); got != (impl.Res{Code: want}) {
				t.Errorf("%s of %d and %d: %v, want %d", o.name, len(r.xs), len(r.ys), got, want)
			}
		}
	}
}

// mergedByWords goes through a list, and ends at the first merge that tells a refusal.
func mergedByWords(l []impl.Acc, merges []int64) (impl.Acc, int64) {
	for i := 0; len(l) > 1; i++ {
		p := 0
		if i < len(merges) {
			p = placeOf(merges[i], int64(len(l)-1))
		}
		a, code := impl.AccMerge(l[p], l[p+1])
		if code != impl.AcOk {
			return impl.Acc{}, code
		}
		l = slices.Concat(l[:p], []impl.Acc{a}, l[p+2:])
	}
	return l[0], impl.AcOk
}

func TestMergeAllOfTerms(t *testing.T) {
	for _, f := range forms {
		d := &dice{141}
		for i := range 150 {
			parts := make([][]term, 1+i%impl.MaxWorkers)
			terms := f.someTerms(d, d.below(30))
			for _, x := range terms {
				p := d.below(len(parts))
				parts[p] = append(parts[p], x)
			}
			var l []impl.Acc
			for _, p := range parts {
				l = append(l, accumulated(t, f, p))
			}
			want := f.accOf(terms)
			for _, merges := range [][]int64{nil, {0}, {-1}, anyPicks(d, len(l)-1), anyPicks(d, len(l)/2), anyPicks(d, 30)} {
				a, code := impl.MergeAll(l, merges)
				checkAcc(t, "MergeAll", a, code, want)
			}
			slices.Reverse(l)
			a, code := impl.MergeAll(l, anyPicks(d, len(l)))
			checkAcc(t, "MergeAll turned", a, code, want)
		}
	}
}

func TestMergeAllOfOne(t *testing.T) {
	for _, f := range forms {
		for _, a := range f.rightAccs() {
			for _, merges := range [][]int64{nil, {0}, {5, -5, math.MinInt64}} {
				b, code := impl.MergeAll([]impl.Acc{a}, merges)
				checkAcc(t, "MergeAll of one", b, code, a)
			}
		}
	}
}

func TestMergeAllOfRightOnes(t *testing.T) {
	d := &dice{142}
	l := append(forms[0].rightAccs(), forms[1].rightAccs()...)
	seen := map[int64]int{}
	for i := range 3000 {
		some := make([]impl.Acc, 1+d.below(impl.MaxWorkers))
		f := forms[i%2]
		for j := range some {
			some[j] = impl.Acc{Fm: f.fm, Terms: int64(d.below(200000))}
			if d.below(12) == 0 {
				some[j] = l[d.below(len(l))]
			}
		}
		merges := anyPicks(d, d.below(18))
		want, told := mergedByWords(some, merges)
		a, code := impl.MergeAll(some, merges)
		if code != told || !accIs(a, want) {
			t.Errorf("%d of %d merges: %v, code %d, want %d", len(some), len(merges), a, code, told)
		}
		seen[told]++
	}
	if seen[impl.AcOk] < 200 || seen[impl.AcFloat] < 200 || seen[impl.AcFull] < 200 {
		t.Errorf("the lists are too much alike: %v", seen)
	}
}

func TestRefusalsOfMergeAll(t *testing.T) {
	for _, f := range forms {
		acc := func(terms int64) impl.Acc { return impl.Acc{Fm: f.fm, Terms: terms} }
		none, full, half, other := acc(0), acc(impl.MaxTerms), acc(impl.MaxTerms/2), impl.Acc{Fm: 96 - f.fm, Terms: impl.MaxTerms}
		for _, r := range []struct {
			name   string
			l      []impl.Acc
			merges []int64
			want   int64
			terms  int64
		}{
			{"none", nil, nil, impl.AcBad, 0},
			{"none, and merges", []impl.Acc{}, []int64{0, 1}, impl.AcBad, 0},
			{"MaxWorkers", slices.Repeat([]impl.Acc{acc(3)}, impl.MaxWorkers), []int64{9, 9}, impl.AcOk, 48},
			{"one more", slices.Repeat([]impl.Acc{acc(3)}, impl.MaxWorkers+1), []int64{9, 9}, impl.AcBad, 0},
			{"far more", slices.Repeat([]impl.Acc{none}, 100000), nil, impl.AcBad, 0},
			{"one more, of unlike formats", append(slices.Repeat([]impl.Acc{full}, impl.MaxWorkers), other), nil, impl.AcBad, 0},
			{"more merges than MaxPicks", []impl.Acc{acc(1), acc(2), acc(3)}, make([]int64, impl.MaxPicks+1), impl.AcOk, 6},
			{"unlike at the first merge", []impl.Acc{none, other, none}, nil, impl.AcFloat, 0},
			{"unlike at the last merge", []impl.Acc{none, half, other}, nil, impl.AcFloat, 0},
			{"unlike, and too many", []impl.Acc{full, other}, nil, impl.AcFloat, 0},
			{"just MaxTerms", []impl.Acc{half, none, half}, nil, impl.AcOk, impl.MaxTerms},
			{"too many at the first merge", []impl.Acc{full, acc(1), none}, nil, impl.AcFull, 0},
			{"too many at the last merge", []impl.Acc{half, half, none, acc(1)}, nil, impl.AcFull, 0},
			{"too many at a merge between", []impl.Acc{half, none, half, acc(1), none}, []int64{0, 0, 0, 0}, impl.AcFull, 0},
			{"too many, and then unlike", []impl.Acc{full, acc(1), other}, nil, impl.AcFull, 0},
			{"unlike, and then too many", []impl.Acc{full, acc(1), other}, []int64{1}, impl.AcFloat, 0},
			{"unlike ahead of too many, by the first pick", []impl.Acc{other, none, full, acc(1)}, []int64{-3}, impl.AcFloat, 0},
			{"too many ahead of unlike, by the first pick", []impl.Acc{other, none, full, acc(1)}, []int64{-1}, impl.AcFull, 0},
			{"too many ahead of unlike, by the last pick", []impl.Acc{other, none, half, half, acc(1)}, []int64{2, 5, 0}, impl.AcFull, 0},
		} {
			a, code := impl.MergeAll(r.l, r.merges)
			want := impl.Acc{}
			if r.want == impl.AcOk {
				want = acc(r.terms)
			}
			if code != r.want || !accIs(a, want) {
				t.Errorf("%d, %s: %v, code %d, want %d", f.fm, r.name, a, code, r.want)
			}
		}
	}
}

// One that is not right, at each place, is told ahead of all that a merge would tell.
func TestMergeAllOfWrongOnes(t *testing.T) {
	for _, f := range forms {
		full, other := impl.Acc{Fm: f.fm, Terms: impl.MaxTerms}, impl.Acc{Fm: 96 - f.fm, Terms: 1}
		for _, no := range append(f.wrongAccs(), impl.Acc{}) {
			for _, l := range [][]impl.Acc{{no}, {no, full}, {full, no}, {full, full, no}, {full, other, no}, {no, no}, {full, other, full, no, full}} {
				for _, merges := range [][]int64{nil, {0, 0}, {-1, -1, -1, -1}} {
					a, code := impl.MergeAll(l, merges)
					checkNoAcc(t, "MergeAll", a, code, impl.AcBad)
				}
			}
		}
	}
}

func TestRoundRobinByTable(t *testing.T) {
	pick := func(worker int64, victim int64) impl.Pick { return impl.Pick{Worker: worker, Victim: victim} }
	for _, r := range []struct {
		n, grain, workers int64
		want              []impl.Pick
	}{
		{0, 1, 1, nil}, {0, 300, 16, nil}, {0, 7, 3, nil},
		{1, 1, 1, []impl.Pick{{}}}, {1, 1, 2, []impl.Pick{pick(0, 1)}}, {1, 300, 16, []impl.Pick{pick(0, 1)}}, {300, 300, 16, []impl.Pick{pick(0, 1)}}, {300, 300, 1, []impl.Pick{{}}},
		{2, 1, 1, make([]impl.Pick, 3)}, {300, 1, 1, make([]impl.Pick, 599)}, {300, 150, 1, make([]impl.Pick, 3)},
		{2, 1, 2, []impl.Pick{pick(0, 1), pick(1, 0), pick(0, 1)}},
		{5, 2, 2, []impl.Pick{pick(0, 1), pick(1, 0), pick(0, 1), pick(1, 0), pick(0, 1)}},
		// Of three, the second one takes from the third one, which has nothing ahead of its own first turn.
		{2, 1, 3, []impl.Pick{pick(0, 1), pick(1, 2), pick(2, 0), pick(0, 1)}},
	} {
		if got := impl.RoundRobin(r.n, r.grain, r.workers); !slices.Equal(got, r.want) {
			t.Errorf("RoundRobin(%d, %d, %d) = %v, want %v", r.n, r.grain, r.workers, got, r.want)
		}
	}
	sizes := []int64{math.MinInt64, -1, 0, 1, 2, 16, 17, 300, 301, 1 << 32, 1<<32 + 1, math.MaxInt64}
	for _, n := range sizes {
		for _, grain := range sizes {
			for _, workers := range sizes {
				_, ok := impl.MachineNew(n, grain, workers)
				if got := impl.RoundRobin(n, grain, workers); len(got) > 0 != (ok && n > 0) {
					t.Errorf("RoundRobin(%d, %d, %d) has %d picks", n, grain, workers, len(got))
				}
			}
		}
	}
}

// checkTurns: worker after worker, each with the next one as its victim, and just as many as halt the machine.
func checkTurns(t *testing.T, n int64, grain int64, workers int64) {
	t.Helper()
	picks := impl.RoundRobin(n, grain, workers)
	for i, p := range picks {
		if p.Worker != int64(i)%workers || p.Victim != int64(i+1)%workers {
			t.Fatalf("pick %d of (%d, %d, %d) is %v", i, n, grain, workers, p)
		}
	}
	end, dids, ok := impl.MachineRun(newMachine(t, n, grain, workers), picks)
	if !ok || !impl.Halted(end) || len(dids) != len(picks) {
		t.Errorf("(%d, %d, %d): %d of %d picks were needed, %v", n, grain, workers, len(dids), len(picks), ok)
	}
}

func TestRoundRobinHalts(t *testing.T) {
	d := &dice{143}
	for workers := int64(1); workers <= impl.MaxWorkers; workers++ {
		for _, n := range []int64{0, 1, 2, 3, 15, 16, 17, int64(d.below(300)), 299, 300} {
			for _, grain := range []int64{1, 2, 3, int64(1 + d.below(50)), max(1, n-1), max(1, n), 300} {
				checkTurns(t, n, grain, workers)
			}
		}
	}
}

func TestRoundRobinAsAPlan(t *testing.T) {
	for _, f := range forms {
		d := &dice{144}
		for workers := int64(1); workers <= impl.MaxWorkers; workers++ {
			n := 1 + d.below(60)
			grain := int64(1 + d.below(6))
			xs, ys := f.mixed(d, n), f.mixed(d, n)
			plan := impl.Plan{Workers: workers, Grain: grain, Picks: impl.RoundRobin(int64(n), grain, workers)}
			checkPar(t, f, 0, xs, ys, plan)
			plan.Picks = plan.Picks[:len(plan.Picks)-1]
			checkNoPar(t, "one pick too few", f, xs, ys, plan, impl.ReOpen)
		}
	}
}

// onProcessors does it with one processor, with two, and with more than there are.
func onProcessors(do func()) {
	was := runtime.GOMAXPROCS(0)
	defer runtime.GOMAXPROCS(was)
	for _, n := range []int{1, 2, 3, 32} {
		runtime.GOMAXPROCS(n)
		do()
	}
}

func TestPromise13HangsOnNoSchedule(t *testing.T) {
	for _, f := range forms {
		d := &dice{145}
		for range 4 {
			xs, ys := f.mixed(d, 60), f.mixed(d, 60)
			plan := drawnPlan(t, d, 60, 1, impl.MaxWorkers)
			onProcessors(func() {
				for range 6 {
					checkPar(t, f, impl.RmUp, xs, ys, plan)
				}
			})
		}
	}
}

// Many calls at once, of unlike vectors, keep nothing of one another.
func TestCallsBesideEachOther(t *testing.T) {
	d := &dice{146}
	var all sync.WaitGroup
	for i := range 24 {
		f := forms[i%2]
		n := 1 + d.below(50)
		xs, ys := f.mixed(d, n), f.mixed(d, n)
		plan := drawnPlan(t, d, n, 1, int64(1+d.below(16)))
		all.Go(func() {
			for _, mode := range modes {
				checkPar(t, f, mode, xs, ys, plan)
			}
		})
	}
	all.Wait()
}

func TestNoWorkerIsLeft(t *testing.T) {
	before := runtime.NumGoroutine()
	l := filled(20, 0x3f800000)
	for i := range 200 {
		plan := impl.Plan{Workers: impl.MaxWorkers, Grain: 1, Picks: impl.RoundRobin(20, 1, impl.MaxWorkers)}
		if i%2 == 0 {
			plan.Picks = plan.Picks[:len(plan.Picks)-1]
		}
		impl.ParSum(32, 0, int64(i%4), l, l, plan)
		impl.ParBins(32, 0, 2, l, plan)
	}
	// A goroutine that said that it is done may need a moment to be gone.
	for range 1000 {
		if runtime.NumGoroutine() <= before {
			return
		}
		time.Sleep(time.Millisecond)
	}
	t.Errorf("%d goroutines, %d before", runtime.NumGoroutine(), before)
}

func TestPlansStayAsTheyWere(t *testing.T) {
	for _, f := range forms {
		d := &dice{147}
		for _, n := range []int{0, 1, 7, 40, impl.MaxVector} {
			room := append(f.mixed(d, n), filled(50, spareMark)...)
			others := append(f.mixed(d, n), filled(50, spareMark)...)
			plan := drawnPlan(t, d, n, 2, int64(1+d.below(16)))
			picks := append(plan.Picks, slices.Repeat([]impl.Pick{{Worker: spareMark}}, 20)...)
			merges := append(plan.Merges, spareMark, spareMark, spareMark)
			plan.Picks, plan.Merges = picks[:len(plan.Picks)], merges[:len(plan.Merges)]
			a, b, c, e := slices.Clone(room), slices.Clone(others), slices.Clone(picks), slices.Clone(merges)
			for _, mode := range []int64{impl.RmEven, impl.RmDown, 6} {
				for _, o := range parOps {
					first := impl.ParSum(f.fm, mode, o.op, room[:n], others[:n], plan)
					if first != impl.ParSum(f.fm, mode, o.op, room[:n], others[:n], plan) {
						t.Errorf("%s is another one the second time", o.name)
					}
				}
				if impl.ParBins(f.fm, mode, 3, room[:n], plan) != impl.ParBins(f.fm, mode, 3, room[:n], plan) {
					t.Error("ParBins is another one the second time")
				}
			}
			if !slices.Equal(room, a) || !slices.Equal(others, b) || !slices.Equal(picks, c) || !slices.Equal(merges, e) {
				t.Errorf("%d: something was written into a vector of %d, or into the plan", f.fm, n)
			}
		}
	}
}

func TestMergeAllLeavesAllAsItWas(t *testing.T) {
	for _, f := range forms {
		d := &dice{148}
		marked := impl.Acc{Fm: spareMark}
		for n := 1; n <= impl.MaxWorkers; n++ {
			var were, room []impl.Acc
			for range n {
				a := accumulated(t, f, f.someTerms(d, 5))
				were = append(were, a)
				a.Sum = roomy(a.Sum)
				room = append(room, a)
			}
			room = append(room, marked, marked, marked)
			merges := append(anyPicks(d, n), spareMark, spareMark)
			kept := slices.Clone(merges)
			a, code := impl.MergeAll(room[:n], merges[:n])
			b, again := impl.MergeAll(room[:n], merges[:n])
			if code != again || !accIs(a, b) {
				t.Error("MergeAll is another one the second time")
			}
			told := slices.Clone(b.Sum.Limbs)
			scribble(a.Sum)
			if !slices.Equal(b.Sum.Limbs, told) {
				t.Error("two answers of MergeAll share memory")
			}
			scribble(b.Sum)
			for i, was := range were {
				if !accIs(room[i], was) || !untouched(room[i].Sum, was.Sum) {
					t.Errorf("of %d, MergeAll wrote into accumulator %d, or shares its memory", n, i)
				}
			}
			if slices.ContainsFunc(room[n:], func(a impl.Acc) bool { return !accIs(a, marked) }) || !slices.Equal(merges, kept) {
				t.Error("MergeAll wrote behind the list, or into the merges")
			}
		}
	}
}

func TestRoundRobinIsNewMemory(t *testing.T) {
	for _, workers := range []int64{1, 2, 16} {
		a, b := impl.RoundRobin(30, 2, workers), impl.RoundRobin(30, 2, workers)
		kept := slices.Clone(b)
		room := a[:cap(a)]
		for i := range room {
			room[i] = impl.Pick{Worker: -7, Victim: -7}
		}
		if !slices.Equal(b, kept) || !slices.Equal(impl.RoundRobin(30, 2, workers), kept) {
			t.Error("two answers of RoundRobin share memory")
		}
	}
}
