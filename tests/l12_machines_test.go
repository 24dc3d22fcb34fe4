package tests

import (
	"math"
	"slices"
	"testing"

	"loop.example/g00672/impl"
)

// spansOf: pairs of From and To.
func spansOf(ends ...int64) []impl.Span {
	var l []impl.Span
	for i := 0; i < len(ends); i += 2 {
		l = append(l, impl.Span{From: ends[i], To: ends[i+1]})
	}
	return l
}

func machineOf(n int64, grain int64, decks ...[]impl.Span) impl.Machine {
	m := impl.Machine{N: n, Grain: grain}
	for _, l := range decks {
		m.Decks = append(m.Decks, impl.Deck{Tasks: l})
	}
	return m
}

func decksAre(a []impl.Deck, b []impl.Deck) bool {
	return slices.EqualFunc(a, b, func(c impl.Deck, d impl.Deck) bool { return slices.Equal(c.Tasks, d.Tasks) })
}

func machineIs(a impl.Machine, b impl.Machine) bool {
	return a.N == b.N && a.Grain == b.Grain && decksAre(a.Decks, b.Decks)
}

func clonedMachine(m impl.Machine) impl.Machine {
	var decks []impl.Deck
	for _, d := range m.Decks {
		decks = append(decks, impl.Deck{Tasks: slices.Clone(d.Tasks)})
	}
	m.Decks = decks
	return m
}

// stepOf is one step by the chapter's words, with decks as plain lists.
func stepOf(m impl.Machine, p impl.Pick) (impl.Machine, impl.Did) {
	m = clonedMachine(m)
	workers := int64(len(m.Decks))
	worker, victim := placeOf(p.Worker, workers), placeOf(p.Victim, workers)
	did := impl.Did{Worker: int64(worker)}
	own, other := &m.Decks[worker].Tasks, &m.Decks[victim].Tasks
	var s impl.Span
	switch k := len(*own); {
	case k > 0:
		s, *own = (*own)[k-1], (*own)[:k-1]
	case len(*other) > 0:
		s, *other = (*other)[0], (*other)[1:]
	default:
		return m, did
	}
	did.From, did.To = s.From, s.To
	did.Kind = impl.DdRun
	if places := s.To - s.From; places > m.Grain {
		did.Kind = impl.DdSplit
		*own = append(*own, impl.Span{From: s.From + places/2, To: s.To}, impl.Span{From: s.From, To: s.From + places/2})
	}
	return m, did
}

func hasTask(m impl.Machine) bool {
	return slices.ContainsFunc(m.Decks, func(d impl.Deck) bool { return len(d.Tasks) > 0 })
}

func runOf(m impl.Machine, picks []impl.Pick) (impl.Machine, []impl.Did) {
	var dids []impl.Did
	for _, p := range picks {
		if !hasTask(m) {
			break
		}
		next, did := stepOf(m, p)
		m, dids = next, append(dids, did)
	}
	return m, dids
}

func checkStep(t *testing.T, m impl.Machine, p impl.Pick) (impl.Machine, impl.Did) {
	t.Helper()
	got, did, ok := impl.MachineStep(m, p)
	want, what := stepOf(m, p)
	if !ok || !machineIs(got, want) || did != what {
		t.Errorf("%v of %v: %v, %v, %v; want %v, %v", p, m, got, did, ok, want, what)
	}
	return want, what
}

func checkRun(t *testing.T, m impl.Machine, picks []impl.Pick) (impl.Machine, []impl.Did) {
	t.Helper()
	got, dids, ok := impl.MachineRun(m, picks)
	want, what := runOf(m, picks)
	if !ok || !machineIs(got, want) || !slices.Equal(dids, what) {
		t.Errorf("%d picks of %v: %v, %d things done, %v; want %v, %d", len(picks), m, got, len(dids), ok, want, len(what))
	}
	return got, dids
}

func newMachine(t *testing.T, n int64, grain int64, workers int64) impl.Machine {
	t.Helper()
	m, ok := impl.MachineNew(n, grain, workers)
	if !ok {
		t.Fatalf("no machine of %d, %d, %d", n, grain, workers)
	}
	return m
}

// anyPairs: so many picks, small, great and below 0.
func anyPairs(d *dice, n int) []impl.Pick {
	workers, victims := anyPicks(d, n), anyPicks(d, n)
	var l []impl.Pick
	for i := range n {
		l = append(l, impl.Pick{Worker: workers[i], Victim: victims[i]})
	}
	return l
}

func TestNumbersOfMachines(t *testing.T) {
	if impl.MaxWorkers != 16 || impl.MaxPicks != 10000 || impl.DdIdle != 0 || impl.DdSplit != 1 || impl.DdRun != 2 {
		t.Error("a constant of chapter 12")
	}
}

// singles: one place a task, the last place first.
func singles(from int64, to int64) []impl.Span {
	var l []impl.Span
	for i := to - 1; i >= from; i-- {
		l = append(l, impl.Span{From: i, To: i + 1})
	}
	return l
}

func rightMachines() []impl.Machine {
	return []impl.Machine{
		machineOf(0, 1, nil),
		machineOf(0, 300, make([][]impl.Span, 16)...),
		machineOf(1, 1, spansOf(0, 1)),
		machineOf(1, 1, nil, spansOf(0, 1)),
		machineOf(5, 2, nil),
		machineOf(5, 2, spansOf(0, 5)),
		machineOf(5, 300, spansOf(3, 5, 0, 3)),
		machineOf(5, 1, spansOf(0, 2), spansOf(2, 5)),
		machineOf(9, 1, spansOf(8, 9, 0, 1), nil, spansOf(4, 6, 2, 4, 6, 7)),
		machineOf(300, 1, spansOf(0, 300)),
		machineOf(300, 300, spansOf(0, 300)),
		machineOf(300, 7, spansOf(299, 300), spansOf(0, 1)),
		machineOf(300, 1, singles(0, 300)),
		machineOf(300, 1, singles(0, 100), nil, singles(200, 300), singles(100, 200)),
		machineOf(300, 1, append(make([][]impl.Span, 15), spansOf(0, 300))...),
	}
}

// wrongMachines are wrong for one reason each.
func wrongMachines() []impl.Machine {
	none := []impl.Span(nil)
	l := []impl.Machine{
		{}, {N: 5, Grain: 1}, {N: 5, Grain: 1, Decks: []impl.Deck{}}, {Grain: 1},
		machineOf(5, 1, make([][]impl.Span, 17)...), machineOf(0, 1, make([][]impl.Span, 100000)...),
	}
	for _, n := range []int64{-1, 301, 1 << 32, math.MinInt64, math.MaxInt64} {
		l = append(l, machineOf(n, 1, none))
	}
	l = append(l, machineOf(301, 1, spansOf(0, 301)), machineOf(301, 1, spansOf(0, 1)))
	for _, grain := range []int64{0, -1, 301, 1 << 32, math.MinInt64, math.MaxInt64} {
		l = append(l, machineOf(5, grain, none), machineOf(5, grain, spansOf(0, 5)))
	}
	for _, tasks := range [][]impl.Span{
		spansOf(0, 0), spansOf(3, 3), spansOf(5, 5), spansOf(3, 2), spansOf(5, 0), spansOf(math.MaxInt64, math.MinInt64), spansOf(math.MaxInt64, 2),
		spansOf(-1, 2), spansOf(-1, 5), spansOf(-1, 1), spansOf(-3, -1), spansOf(math.MinInt64, 1), spansOf(math.MinInt64, math.MinInt64+2), spansOf(-1, 0),
		spansOf(0, 6), spansOf(4, 6), spansOf(5, 6), spansOf(6, 7), spansOf(0, 300), spansOf(0, math.MaxInt64), spansOf(math.MaxInt64-1, math.MaxInt64),
		spansOf(0, 1, 0, 1), spansOf(0, 5, 2, 3), spansOf(2, 3, 0, 5), spansOf(0, 3, 2, 5), spansOf(2, 5, 0, 3), spansOf(4, 5, 0, 1, 1, 2, 4, 5),
		spansOf(0, 5, 5, 5), spansOf(0, 2, 3, 2),
	} {
		l = append(l, machineOf(5, 1, tasks), machineOf(5, 300, none, tasks), machineOf(5, 1, tasks, none, none))
		last := len(tasks) - 1
		l = append(l, machineOf(5, 1, tasks[:last], none, tasks[last:]), machineOf(5, 2, tasks[last:], tasks[:last]))
	}
	return append(l, machineOf(300, 1, append(singles(0, 300), impl.Span{From: 299, To: 300})), machineOf(300, 1, make([]impl.Span, 100000)))
}

func TestMachineOk(t *testing.T) {
	for _, m := range rightMachines() {
		if !impl.MachineOk(m) {
			t.Errorf("%v is right", m)
		}
		if impl.Halted(m) != !hasTask(m) {
			t.Errorf("%v is halted: %v", m, impl.Halted(m))
		}
	}
}

func TestWrongMachinesAreRefused(t *testing.T) {
	for _, m := range wrongMachines() {
		if impl.MachineOk(m) || impl.Halted(m) {
			t.Errorf("%v is not right", m)
		}
		if next, did, ok := impl.MachineStep(m, impl.Pick{}); ok || did != (impl.Did{}) || !machineIs(next, impl.Machine{}) {
			t.Errorf("a step of %v: %v, %v, %v", m, next, did, ok)
		}
		for _, n := range []int{0, 1, 9, impl.MaxPicks, impl.MaxPicks + 1} {
			if next, dids, ok := impl.MachineRun(m, make([]impl.Pick, n)); ok || len(dids) != 0 || !machineIs(next, impl.Machine{}) {
				t.Errorf("%d picks of %v: %v, %v, %v", n, m, next, dids, ok)
			}
		}
	}
}

func TestMachineNew(t *testing.T) {
	sizes := []int64{math.MinInt64, -1, 0, 1, 2, 5, 15, 16, 17, 299, 300, 301, 1 << 32, 1<<32 + 1, math.MaxInt64}
	for _, n := range sizes {
		for _, grain := range sizes {
			for _, workers := range sizes {
				m, ok := impl.MachineNew(n, grain, workers)
				right := n >= 0 && n <= 300 && grain >= 1 && grain <= 300 && workers >= 1 && workers <= 16
				want := impl.Machine{}
				if right {
					want = machineOf(n, grain, make([][]impl.Span, workers)...)
				}
				if right && n > 0 {
					want.Decks[0].Tasks = spansOf(0, n)
				}
				if ok != right || !machineIs(m, want) || impl.MachineOk(m) != right || impl.Halted(m) != (right && n == 0) {
					t.Errorf("MachineNew(%d, %d, %d) = %v, %v", n, grain, workers, m, ok)
				}
			}
		}
	}
}

func TestStepsByTable(t *testing.T) {
	two := machineOf(20, 2, spansOf(0, 2, 2, 4, 4, 10), spansOf(10, 11, 11, 12, 12, 20))
	lone := machineOf(9, 3, nil, spansOf(0, 3, 3, 7), nil)
	for _, r := range []struct {
		name string
		m    impl.Machine
		p    impl.Pick
		want impl.Machine
		did  impl.Did
	}{
		{"its own newest is split", two, impl.Pick{}, machineOf(20, 2, spansOf(0, 2, 2, 4, 7, 10, 4, 7), spansOf(10, 11, 11, 12, 12, 20)), impl.Did{Kind: 1, From: 4, To: 10}},
		{"its own ahead of the victim's", two, impl.Pick{Worker: 1, Victim: 0}, machineOf(20, 2, spansOf(0, 2, 2, 4, 4, 10), spansOf(10, 11, 11, 12, 16, 20, 12, 16)), impl.Did{Kind: 1, Worker: 1, From: 12, To: 20}},
		{"the victim's oldest is run", lone, impl.Pick{Victim: 1}, machineOf(9, 3, nil, spansOf(3, 7), nil), impl.Did{Kind: 2, From: 0, To: 3}},
		{"its own newest, itself as its victim", lone, impl.Pick{Worker: 1, Victim: 1}, machineOf(9, 3, nil, spansOf(0, 3, 5, 7, 3, 5), nil), impl.Did{Kind: 1, Worker: 1, From: 3, To: 7}},
		{"none, and itself as its victim", lone, impl.Pick{Worker: 2, Victim: 2}, lone, impl.Did{Worker: 2}},
		{"none, and none of the victim", lone, impl.Pick{Worker: 2, Victim: 0}, lone, impl.Did{Worker: 2}},
		{"a worker below 0", lone, impl.Pick{Worker: -2, Victim: 0}, machineOf(9, 3, nil, spansOf(0, 3, 5, 7, 3, 5), nil), impl.Did{Kind: 1, Worker: 1, From: 3, To: 7}},
		{"a worker beyond, a victim below 0", lone, impl.Pick{Worker: 5, Victim: -5}, machineOf(9, 3, nil, spansOf(3, 7), nil), impl.Did{Kind: 2, Worker: 2, From: 0, To: 3}},
		{"just the number of workers", lone, impl.Pick{Worker: 3, Victim: -3}, lone, impl.Did{}},
		{"the greatest and the least number", lone, impl.Pick{Worker: math.MaxInt64, Victim: math.MinInt64}, machineOf(9, 3, nil, spansOf(0, 3, 5, 7, 3, 5), nil), impl.Did{Kind: 1, Worker: 1, From: 3, To: 7}},
		{"the least and the greatest number", machineOf(9, 3, spansOf(0, 9), nil, nil), impl.Pick{Worker: math.MinInt64, Victim: math.MaxInt64 - 1}, machineOf(9, 3, nil, spansOf(4, 9, 0, 4), nil), impl.Did{Kind: 1, Worker: 1, To: 9}},
		{"stolen and split", machineOf(9, 2, spansOf(0, 5, 5, 9), nil), impl.Pick{Worker: 1}, machineOf(9, 2, spansOf(5, 9), spansOf(2, 5, 0, 2)), impl.Did{Kind: 1, Worker: 1, From: 0, To: 5}},
		{"just Grain places", machineOf(9, 4, spansOf(5, 9)), impl.Pick{}, machineOf(9, 4, nil), impl.Did{Kind: 2, From: 5, To: 9}},
		{"one more", machineOf(9, 3, spansOf(5, 9)), impl.Pick{}, machineOf(9, 3, spansOf(7, 9, 5, 7)), impl.Did{Kind: 1, From: 5, To: 9}},
		{"an odd number", machineOf(9, 1, spansOf(2, 9)), impl.Pick{}, machineOf(9, 1, spansOf(5, 9, 2, 5)), impl.Did{Kind: 1, From: 2, To: 9}},
		{"three", machineOf(9, 1, spansOf(6, 9)), impl.Pick{}, machineOf(9, 1, spansOf(7, 9, 6, 7)), impl.Did{Kind: 1, From: 6, To: 9}},
		{"two", machineOf(2, 1, spansOf(0, 2)), impl.Pick{}, machineOf(2, 1, spansOf(1, 2, 0, 1)), impl.Did{Kind: 1, To: 2}},
		{"one", machineOf(2, 1, spansOf(1, 2)), impl.Pick{}, machineOf(2, 1, nil), impl.Did{Kind: 2, From: 1, To: 2}},
		{"no task at all", machineOf(0, 1, nil, nil), impl.Pick{Worker: 1}, machineOf(0, 1, nil, nil), impl.Did{Worker: 1}},
		{"all of MaxVector", machineOf(300, 299, nil, spansOf(0, 300)), impl.Pick{Victim: 1}, machineOf(300, 299, spansOf(150, 300, 0, 150), nil), impl.Did{Kind: 1, To: 300}},
		{"MaxVector at once", machineOf(300, 300, spansOf(0, 300)), impl.Pick{Victim: 9}, machineOf(300, 300, nil), impl.Did{Kind: 2, To: 300}},
	} {
		got, did, ok := impl.MachineStep(r.m, r.p)
		if !ok || did != r.did || !machineIs(got, r.want) {
			t.Errorf("%s: %v, %v, %v; want %v, %v", r.name, got, did, ok, r.want, r.did)
		}
		checkStep(t, r.m, r.p)
	}
}

func TestStepsOfAllPairs(t *testing.T) {
	for _, m := range rightMachines() {
		k := int64(len(m.Decks))
		for worker := -k - 1; worker <= 2*k; worker++ {
			for victim := -k - 1; victim <= 2*k; victim++ {
				checkStep(t, m, impl.Pick{Worker: worker, Victim: victim})
			}
		}
		for _, far := range []int64{math.MinInt64, math.MinInt64 + 1, math.MaxInt64 - 1, math.MaxInt64} {
			checkStep(t, m, impl.Pick{Worker: far, Victim: 1})
			checkStep(t, m, impl.Pick{Worker: 1, Victim: far})
			checkStep(t, m, impl.Pick{Worker: far, Victim: -far})
		}
	}
}

func TestRunsOfAnyPicks(t *testing.T) {
	d := &dice{121}
	ended, left := 0, 0
	for range 300 {
		m := newMachine(t, int64(d.below(60)), int64(1+d.below(9)), int64(1+d.below(16)))
		m, _ = checkRun(t, m, anyPairs(d, d.below(90)))
		m, _ = checkRun(t, m, anyPairs(d, d.below(30)))
		if impl.Halted(m) {
			ended++
		} else {
			left++
		}
		if !impl.MachineOk(m) {
			t.Errorf("%v is no machine any more", m)
		}
	}
	if ended < 50 || left < 50 {
		t.Errorf("%d ended, %d did not", ended, left)
	}
	for _, m := range rightMachines() {
		for _, n := range []int{0, 1, 7, 2000} {
			checkRun(t, m, anyPairs(d, n))
		}
	}
}

// A run is one step after the other.
func TestRunsAreSteps(t *testing.T) {
	d := &dice{122}
	for range 30 {
		m := newMachine(t, int64(1+d.below(300)), int64(1+d.below(20)), int64(1+d.below(16)))
		picks := anyPairs(d, 500)
		end, dids, _ := impl.MachineRun(m, picks)
		for i := range dids {
			if impl.Halted(m) {
				t.Fatal("something was done behind the end")
			}
			next, did, ok := impl.MachineStep(m, picks[i])
			if !ok || did != dids[i] {
				t.Fatalf("step %d: %v, %v; the run did %v", i, did, ok, dids[i])
			}
			m = next
		}
		if !machineIs(m, end) || len(dids) < len(picks) && !impl.Halted(end) {
			t.Errorf("the run left %v, the steps %v", end, m)
		}
	}
}

func TestRunsByTable(t *testing.T) {
	m := machineOf(4, 2, spansOf(0, 4), nil)
	halves := []impl.Did{{Kind: 1, To: 4}, {Kind: 2, From: 0, To: 2}, {Kind: 2, From: 2, To: 4}}
	for _, r := range []struct {
		name  string
		picks []impl.Pick
		want  impl.Machine
		dids  []impl.Did
	}{
		{"no pick", nil, m, nil},
		{"one", make([]impl.Pick, 1), machineOf(4, 2, spansOf(2, 4, 0, 2), nil), halves[:1]},
		{"two", make([]impl.Pick, 2), machineOf(4, 2, spansOf(2, 4), nil), halves[:2]},
		{"just enough", make([]impl.Pick, 3), machineOf(4, 2, nil, nil), halves},
		{"one too many", make([]impl.Pick, 4), machineOf(4, 2, nil, nil), halves},
		{"far too many", make([]impl.Pick, impl.MaxPicks), machineOf(4, 2, nil, nil), halves},
		{"idle ones", []impl.Pick{{Worker: 1, Victim: 1}, {}, {Worker: 1, Victim: 3}, {Worker: 1}, {}, {}}, machineOf(4, 2, nil, nil), []impl.Did{{Worker: 1}, {Kind: 1, To: 4}, {Worker: 1}, {Kind: 2, Worker: 1, From: 2, To: 4}, {Kind: 2, To: 2}}},
		{"idle ones alone", slices.Repeat([]impl.Pick{{Worker: 1, Victim: 1}}, impl.MaxPicks), m, slices.Repeat([]impl.Did{{Worker: 1}}, impl.MaxPicks)},
	} {
		got, dids, ok := impl.MachineRun(m, r.picks)
		if !ok || !machineIs(got, r.want) || !slices.Equal(dids, r.dids) {
			t.Errorf("%s: %v, %d done, %v; want %v, %d", r.name, got, len(dids), ok, r.want, len(r.dids))
		}
	}
	for _, n := range []int{impl.MaxPicks + 1, 2 * impl.MaxPicks} {
		for _, m := range []impl.Machine{m, machineOf(0, 1, nil)} {
			if got, dids, ok := impl.MachineRun(m, make([]impl.Pick, n)); ok || len(dids) != 0 || !machineIs(got, impl.Machine{}) {
				t.Errorf("%d picks: %v, %d, %v", n, got, len(dids), ok)
			}
		}
	}
	if got, dids, ok := impl.MachineRun(machineOf(0, 1, nil), make([]impl.Pick, 9)); !ok || len(dids) != 0 || !machineIs(got, machineOf(0, 1, nil)) {
		t.Errorf("without a task: %v, %v, %v", got, dids, ok)
	}
}

// kinds counts what was done of each kind.
func kinds(dids []impl.Did) [3]int64 {
	var l [3]int64
	for _, d := range dids {
		l[d.Kind]++
	}
	return l
}

// counted by a list of what is still to be split: each is one step, and leaves two when it is too long.
func counted(n int64, grain int64) int64 {
	left, steps := []int64{n}, int64(0)
	if n == 0 {
		return 0
	}
	for len(left) > 0 {
		k := left[0]
		left = left[1:]
		steps++
		if k > grain {
			left = append(left, k/2, k-k/2)
		}
	}
	return steps
}

func TestTaskCount(t *testing.T) {
	for n := range int64(impl.MaxVector + 1) {
		for grain := int64(1); grain <= impl.MaxVector; grain++ {
			if got := impl.TaskCount(n, grain); got != counted(n, grain) {
				t.Errorf("TaskCount(%d, %d) = %d, want %d", n, grain, got, counted(n, grain))
			}
		}
	}
	for _, r := range [][3]int64{
		{0, 1, 0}, {0, 300, 0}, {1, 1, 1}, {2, 1, 3}, {3, 1, 5}, {3, 2, 3}, {4, 2, 3}, {5, 2, 5}, {6, 2, 7}, {7, 3, 5}, {300, 1, 599}, {300, 2, 343}, {300, 150, 3}, {300, 149, 7}, {300, 299, 3}, {300, 300, 1},
		{-1, 1, -1}, {301, 1, -1}, {301, 300, -1}, {3, 0, -1}, {3, 301, -1}, {0, 0, -1}, {0, 301, -1}, {-1, 0, -1},
		{math.MinInt64, 1, -1}, {math.MaxInt64, 1, -1}, {3, math.MinInt64, -1}, {3, math.MaxInt64, -1}, {1 << 32, 1, -1}, {3, 1<<32 + 1, -1},
	} {
		if got := impl.TaskCount(r[0], r[1]); got != r[2] {
			t.Errorf("TaskCount(%d, %d) = %d, want %d", r[0], r[1], got, r[2])
		}
	}
}

// untilHalted picks on, by lists of picks, till there is no task.
func untilHalted(t *testing.T, d *dice, m impl.Machine) []impl.Did {
	t.Helper()
	var all []impl.Did
	for range 100 {
		next, dids, ok := impl.MachineRun(m, anyPairs(d, 500))
		if !ok {
			t.Fatalf("%v does not run", m)
		}
		m, all = next, append(all, dids...)
		if impl.Halted(m) {
			return all
		}
	}
	t.Fatalf("%v is still not halted", m)
	return nil
}

func TestPromise12Counts(t *testing.T) {
	d := &dice{123}
	for n := int64(0); n <= impl.MaxVector; n += 1 + int64(d.below(4)) {
		for _, grain := range []int64{1, 2, 3, int64(1 + d.below(40)), max(n-1, 1), max(n, 1), 300} {
			k := kinds(untilHalted(t, d, newMachine(t, n, grain, int64(1+d.below(16)))))
			if want := impl.TaskCount(n, grain); k[impl.DdSplit]+k[impl.DdRun] != want {
				t.Errorf("%d places, Grain %d: %v, want %d", n, grain, k, want)
			}
		}
	}
}

// checkPlaces: each place is in one task, or was run once.
func checkPlaces(t *testing.T, m impl.Machine, ran []int) {
	t.Helper()
	seen := slices.Clone(ran)
	for _, deck := range m.Decks {
		for _, s := range deck.Tasks {
			for i := s.From; i < s.To; i++ {
				seen[i]++
			}
		}
	}
	for i, k := range seen {
		if k != 1 {
			t.Fatalf("place %d is seen %d times, with %v", i, k, m)
		}
	}
}

func TestPromise12Places(t *testing.T) {
	d := &dice{124}
	for i := range 60 {
		n, grain := int64(d.below(80)), int64(1+d.below(5))
		if i%15 == 0 {
			n = impl.MaxVector
		}
		m := newMachine(t, n, grain, int64(1+d.below(16)))
		ran := make([]int, n)
		done := int64(0)
		for steps := 0; !impl.Halted(m); steps++ {
			if steps > 50000 {
				t.Fatalf("%v is not halted", m)
			}
			checkPlaces(t, m, ran)
			next, did, ok := impl.MachineStep(m, anyPairs(d, 1)[0])
			if !ok || !impl.MachineOk(next) {
				t.Fatalf("%v became %v", m, next)
			}
			m = next
			if did.Kind != impl.DdIdle {
				done++
			}
			if did.Kind == impl.DdRun {
				for i := did.From; i < did.To; i++ {
					ran[i]++
				}
			}
			if done == impl.TaskCount(n, grain) != impl.Halted(m) {
				t.Fatalf("%d splits and runs, and it is halted: %v", done, impl.Halted(m))
			}
		}
		checkPlaces(t, m, ran)
	}
}

// One worker alone goes through the places in order; a thief that comes behind each of its steps takes the greatest tasks.
func TestWhoseTaskIsTheNewest(t *testing.T) {
	m := newMachine(t, 300, 1, 1)
	_, dids, _ := impl.MachineRun(m, make([]impl.Pick, 599))
	next := int64(0)
	for _, did := range dids {
		if did.Kind != impl.DdRun {
			continue
		}
		if did.From != next || did.To != next+1 {
			t.Fatalf("%v comes behind place %d", did, next)
		}
		next++
	}
	if next != 300 {
		t.Errorf("%d places were run", next)
	}
	m = newMachine(t, 16, 1, 2)
	m, dids, _ = impl.MachineRun(m, []impl.Pick{{}, {}, {Worker: 1}, {Worker: 1}, {Worker: 1}})
	want := []impl.Did{{Kind: 1, To: 16}, {Kind: 1, To: 8}, {Kind: 1, Worker: 1, From: 8, To: 16}, {Kind: 1, Worker: 1, From: 8, To: 12}, {Kind: 1, Worker: 1, From: 8, To: 10}}
	if !slices.Equal(dids, want) || !machineIs(m, machineOf(16, 1, spansOf(4, 8, 0, 4), spansOf(12, 16, 10, 12, 9, 10, 8, 9))) {
		t.Errorf("%v, %v", dids, m)
	}
}

func TestSharesOf(t *testing.T) {
	run := func(worker int64, from int64, to int64) impl.Did {
		return impl.Did{Kind: impl.DdRun, Worker: worker, From: from, To: to}
	}
	split, idle := impl.Did{Kind: impl.DdSplit, Worker: 1, From: 2, To: 9}, impl.Did{Worker: 1}
	some := []impl.Did{run(1, 5, 7), split, run(0, 0, 2), idle, run(1, 2, 5), run(1, 5, 7), split}
	for _, r := range []struct {
		name    string
		dids    []impl.Did
		workers int64
		want    [][]impl.Span
	}{
		{"some", some, 2, [][]impl.Span{spansOf(0, 2), spansOf(5, 7, 2, 5, 5, 7)}},
		{"with one that ran nothing", some, 3, [][]impl.Span{spansOf(0, 2), spansOf(5, 7, 2, 5, 5, 7), nil}},
		{"with MaxWorkers", some, 16, append([][]impl.Span{spansOf(0, 2), spansOf(5, 7, 2, 5, 5, 7)}, make([][]impl.Span, 14)...)},
		{"idle and split alone", []impl.Did{idle, split, idle}, 2, make([][]impl.Span, 2)},
		{"nothing done", nil, 4, make([][]impl.Span, 4)},
		{"one worker", []impl.Did{run(0, 3, 4)}, 1, [][]impl.Span{spansOf(3, 4)}},
		{"the last of MaxWorkers", []impl.Did{run(15, 3, 4)}, 16, append(make([][]impl.Span, 15), spansOf(3, 4))},
		{"MaxPicks", slices.Repeat([]impl.Did{idle, run(1, 0, 1)}, impl.MaxPicks/2), 2, [][]impl.Span{nil, slices.Repeat(spansOf(0, 1), impl.MaxPicks/2)}},
		{"a worker that is none", some, 1, nil},
		{"just the number of workers", []impl.Did{run(0, 0, 1), run(2, 1, 2)}, 2, nil},
		{"a worker below 0", []impl.Did{run(-1, 0, 1)}, 2, nil},
		{"far workers", []impl.Did{run(math.MinInt64, 0, 1)}, 2, nil},
		{"a worker far beyond", []impl.Did{run(0, 0, 1), run(math.MaxInt64, 0, 1)}, 2, nil},
		{"an idle one that is none", []impl.Did{run(0, 0, 1), {Worker: 2}}, 2, nil},
		{"one that split and is none", []impl.Did{run(0, 0, 1), {Kind: impl.DdSplit, Worker: -1}}, 2, nil},
		{"no workers", nil, 0, nil}, {"no workers, but runs", some, 0, nil}, {"fewer than none", nil, -1, nil},
		{"one more than MaxWorkers", some, 17, nil}, {"far too many workers", some, math.MaxInt64, nil}, {"far too few workers", some, math.MinInt64, nil},
		{"one more than MaxPicks", slices.Repeat([]impl.Did{run(0, 0, 1)}, impl.MaxPicks+1), 2, nil},
		{"one idle more than MaxPicks", make([]impl.Did, impl.MaxPicks+1), 2, nil},
	} {
		if got := impl.SharesOf(r.dids, r.workers); !decksAre(got, machineOf(0, 0, r.want...).Decks) {
			t.Errorf("%s: %v, want %v", r.name, got, r.want)
		}
	}
}

func TestSharesOfRuns(t *testing.T) {
	d := &dice{125}
	for range 40 {
		n, workers := int64(d.below(300)), int64(1+d.below(16))
		dids := untilHalted(t, d, newMachine(t, n, int64(1+d.below(20)), workers))
		dids = slices.DeleteFunc(dids, func(d impl.Did) bool { return d.Kind == impl.DdIdle })
		shares := impl.SharesOf(dids, workers)
		if int64(len(shares)) != workers {
			t.Fatalf("%d shares of %d workers", len(shares), workers)
		}
		checkPlaces(t, impl.Machine{Decks: shares}, make([]int, n))
		for w, share := range shares {
			var own []impl.Span
			for _, did := range dids {
				if did.Kind == impl.DdRun && did.Worker == int64(w) {
					own = append(own, impl.Span{From: did.From, To: did.To})
				}
			}
			if !slices.Equal(own, share.Tasks) {
				t.Errorf("worker %d ran %v, its share is %v", w, own, share.Tasks)
			}
		}
	}
}

var markedSpan = impl.Span{From: spareMark, To: spareMark}

// roomyMachine is the same with marked spare room behind each list.
func roomyMachine(m impl.Machine) impl.Machine {
	var decks []impl.Deck
	for _, d := range m.Decks {
		tasks := append(slices.Clone(d.Tasks), slices.Repeat([]impl.Span{markedSpan}, 9)...)
		decks = append(decks, impl.Deck{Tasks: tasks[:len(d.Tasks)]})
	}
	n := len(decks)
	m.Decks = append(decks, slices.Repeat([]impl.Deck{{Tasks: []impl.Span{markedSpan}}}, 3)...)[:n]
	return m
}

// machineUntouched is false when something was written into a roomy machine, or behind it.
func machineUntouched(m impl.Machine, was impl.Machine) bool {
	if !machineIs(m, was) {
		return false
	}
	for _, d := range m.Decks {
		for _, s := range d.Tasks[len(d.Tasks):cap(d.Tasks)] {
			if s != markedSpan && s != (impl.Span{}) {
				return false
			}
		}
	}
	n := len(m.Decks)
	return decksAre(m.Decks[n:n+3], slices.Repeat([]impl.Deck{{Tasks: []impl.Span{markedSpan}}}, 3))
}

// scribbleDecks writes over each list of an answer, one after the other: none of the others may change with it.
func scribbleDecks(t *testing.T, what string, decks []impl.Deck) {
	t.Helper()
	for i := range decks {
		others := clonedMachine(impl.Machine{Decks: decks}).Decks
		room := decks[i].Tasks[:cap(decks[i].Tasks)]
		for j := range room {
			room[j] = impl.Span{From: -7, To: -7}
		}
		for j := range decks {
			if j != i && !slices.Equal(decks[j].Tasks, others[j].Tasks) {
				t.Errorf("%s: decks %d and %d share memory", what, i, j)
			}
		}
	}
	room := decks[:cap(decks)]
	for i := range room {
		room[i] = impl.Deck{Tasks: spansOf(-8, -8)}
	}
}

func TestMachinesStayAsTheyWere(t *testing.T) {
	d := &dice{126}
	for _, m := range append(rightMachines(), wrongMachines()[:40]...) {
		if len(m.Decks) > 100 {
			continue
		}
		was := clonedMachine(m)
		m = roomyMachine(m)
		pairs := anyPairs(d, 60)
		were := slices.Clone(pairs)
		picks := pairs[:50]
		for _, p := range picks {
			a, did, ok := impl.MachineStep(m, p)
			b, again, is := impl.MachineStep(m, p)
			if ok != is || did != again || !machineIs(a, b) {
				t.Error("MachineStep is another one the second time")
			}
			kept := clonedMachine(b)
			scribbleDecks(t, "MachineStep", a.Decks)
			if !machineIs(b, kept) {
				t.Error("two answers of MachineStep share memory")
			}
		}
		a, dids, ok := impl.MachineRun(m, picks)
		b, again, is := impl.MachineRun(m, picks)
		if ok != is || !slices.Equal(dids, again) || !machineIs(a, b) {
			t.Error("MachineRun is another one the second time")
		}
		kept, told := clonedMachine(b), slices.Clone(again)
		scribbleDecks(t, "MachineRun", a.Decks)
		for i := range dids[:cap(dids)] {
			dids[:cap(dids)][i] = impl.Did{Kind: -9}
		}
		if !machineIs(b, kept) || !slices.Equal(again, told) {
			t.Error("two answers of MachineRun share memory")
		}
		impl.MachineOk(m)
		impl.Halted(m)
		if !machineUntouched(m, was) || !slices.Equal(pairs, were) {
			t.Errorf("something was written into %v, or into the picks", was)
		}
	}
}

func TestNewMachinesAndSharesAreNewMemory(t *testing.T) {
	d := &dice{127}
	for _, workers := range []int64{1, 2, 16} {
		a, b := newMachine(t, 9, 1, workers), newMachine(t, 9, 1, workers)
		kept := clonedMachine(b)
		scribbleDecks(t, "MachineNew", a.Decks)
		if !machineIs(b, kept) || !machineIs(newMachine(t, 9, 1, workers), kept) {
			t.Error("two answers of MachineNew share memory")
		}
		room := append(untilHalted(t, d, b), slices.Repeat([]impl.Did{{Kind: spareMark}}, 20)...)
		were := slices.Clone(room)
		dids := room[:len(room)-20]
		one, other := impl.SharesOf(dids, workers), impl.SharesOf(dids, workers)
		held := clonedMachine(impl.Machine{Decks: other})
		scribbleDecks(t, "SharesOf", one)
		if !decksAre(other, held.Decks) || !decksAre(impl.SharesOf(dids, workers), held.Decks) {
			t.Error("two answers of SharesOf share memory")
		}
		if !slices.Equal(room, were) || !machineIs(b, kept) {
			t.Error("something was written into what was done")
		}
	}
}
