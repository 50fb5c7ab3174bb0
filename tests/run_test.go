package tests

import (
	"math"
	"math/rand"
	"reflect"
	"runtime"
	"slices"
	"sync"
	"testing"
	"time"

	"loop.example/outwork/impl"
)

// checkGoesOn asks what promise 34 says of a step, and no more.
func checkGoesOn(t *testing.T, p prog, r run, in int) {
	t.Helper()
	next := impl.RunStep(p, r, in)
	if !impl.RunOk(p, r) || !impl.RunOk(p, next) {
		t.Fatalf("by %+v a step from %+v to %+v, and one of both is not ok", p, r, next)
	}
	if r.State != goes {
		if !sameRun(next, r) {
			t.Fatalf("%+v became %+v", r, next)
		}
		return
	}
	if !goesOnTop(p, r, next) && !hasFailedThere(p, r, next) && !hasCalled(p, r, next) && !hasGiven(p, r, next) {
		t.Fatalf("by %+v %+v leads to %+v", p, r, next)
	}
}

func topOf(p prog, r run) (call, ins) {
	f := r.Frames[len(r.Frames)-1]
	return f, p.Procs[f.Proc].Code[f.Pc]
}

// belowAsWas says whether the first calls are as they were.
func belowAsWas(r, next run, many int) bool {
	return reflect.DeepEqual(r.Frames[:many], next.Frames[:many])
}

func goesOnTop(p prog, r, next run) bool {
	many := len(r.Frames)
	if next.State != goes || len(next.Frames) != many || !belowAsWas(r, next, many-1) {
		return false
	}
	f, i := topOf(p, r)
	now, _ := topOf(p, next)
	return i.Op != impl.OpCall && now.Proc == f.Proc && slices.Contains(impl.InsNext(i, f.Pc), now.Pc)
}

func hasFailedThere(p prog, r, next run) bool {
	f, i := topOf(p, r)
	return impl.InsRisks(i.Op) && sameRun(next, failedAt(f.Proc, f.Pc))
}

func hasCalled(p prog, r, next run) bool {
	f, i := topOf(p, r)
	many := len(r.Frames)
	if i.Op != impl.OpCall {
		return false
	}
	if many == mostDepth {
		return sameRun(next, run{State: deep})
	}
	return next.State == goes && len(next.Frames) == many+1 && belowAsWas(r, next, many) &&
		reflect.DeepEqual(next.Frames[many], begun(i.To, f.Vars[i.A]))
}

func hasGiven(p prog, r, next run) bool {
	f, i := topOf(p, r)
	many := len(r.Frames)
	if i.Op != impl.OpRet {
		return false
	}
	if many == 1 {
		return sameRun(next, run{State: done, Out: f.Vars[i.A]})
	}
	want := copied(r)
	want.Frames = want.Frames[:many-1]
	below, to := topOf(p, want)
	below.Vars[to.D] = f.Vars[i.A]
	want.Frames[many-2].Pc++
	return sameRun(next, want)
}

func TestPromise34ARunGoesOnByItsProgram(t *testing.T) {
	ends := map[int]int{}
	walks(600, 60, func(p prog, r run, in int) {
		checkGoesOn(t, p, r, in)
		checkStep(t, p, r, in)
		ends[r.State]++
	})
	for _, state := range []int{goes, done, fails, deep} {
		if ends[state] == 0 {
			t.Errorf("no run was drawn that stands at %d", state)
		}
	}
	r := rand.New(rand.NewSource(341))
	for k := range 400 {
		p := lively(r, 1+k%mostProcs)
		for _, at := range placedRuns(r, p, 10) {
			checkGoesOn(t, p, at, drawnIn(r))
		}
	}
}

// ended are runs that do not go on, of a program that has a step which may fail at place 1 of procedure 1.
func ended() []run {
	return []run{
		{State: done}, {State: done, Out: 7}, {State: done, Out: least}, {State: done, Out: greatest},
		failedAt(1, 1), {State: deep}, {State: done, Frames: []call{}},
	}
}

func endedProgram(t *testing.T) prog {
	return read(t, "procs 2", "proc 0 0 size 1", "ret a", "proc 0 0 size 3", "set b 3", "assert a = b", "ret a")
}

func TestARunThatDoesNotGoOnStaysAsItIs(t *testing.T) {
	p := endedProgram(t)
	for _, r := range ended() {
		if !impl.RunOk(p, r) || impl.RunDepth(p, r) != 0 {
			t.Errorf("%+v is not ok, or has calls", r)
		}
		for _, in := range someIns() {
			checkGoesOn(t, p, r, in)
		}
		for _, fuel := range []int{math.MinInt, -1, 0, 1, 2, mostFuel} {
			if got := impl.RunMany(p, r, []int{1, 2}, fuel); !sameRun(got, r) {
				t.Errorf("RunMany of %+v is %+v", r, got)
			}
		}
	}
}

// checkSplit asks what promise 35 says: where nothing comes in, so many steps and then so many more are all of them.
func checkSplit(t *testing.T, p prog, r run, first, second int) {
	t.Helper()
	all := impl.RunMany(p, r, nil, first+second)
	some := impl.RunMany(p, impl.RunMany(p, r, nil, first), []int{}, second)
	if !sameRun(all, some) || !sameRun(all, went(p, r, nil, first+second)) {
		t.Fatalf("by %+v %d and %d steps of %+v are %+v, all of them %+v", p, first, second, r, some, all)
	}
}

func TestPromise35ManyStepsAreSomeAndThenTheOthers(t *testing.T) {
	r := rand.New(rand.NewSource(35))
	for k := range 300 {
		p := lively(r, 1+k%mostProcs)
		for _, at := range placedRuns(r, p, 2) {
			for _, first := range []int{0, 1, 2, 5, r.Intn(mostFuel), mostFuel} {
				checkSplit(t, p, at, first, r.Intn(mostFuel-first+1))
			}
			in := drawnIn(r)
			if one := impl.RunMany(p, at, []int{in}, 1); !sameRun(one, impl.RunStep(p, at, in)) {
				t.Fatalf("one step of %+v is %+v", at, one)
			}
		}
	}
}

// counter counts up its variable a at each second step, for ever.
func counter(t *testing.T) prog {
	return read(t, "procs 1", "proc -9 9 size 3", "set b 1", "add a a b", "jump 1")
}

func TestRunManyByFuel(t *testing.T) {
	p := counter(t)
	r := going(begun(0, 0))
	for _, c := range []struct{ fuel, a, b, pc int }{
		{math.MinInt, 0, 0, 0}, {-300, 0, 0, 0}, {-1, 0, 0, 0}, {0, 0, 0, 0},
		{1, 0, 1, 1}, {2, 1, 1, 2}, {3, 1, 1, 1}, {4, 2, 1, 2}, {mostFuel - 1, 149, 1, 1}, {mostFuel, 150, 1, 2},
	} {
		want := going(call{Pc: c.pc, Vars: []int{c.a, c.b, 0, 0}, Cells: []int{0, 0, 0, 0}})
		if got := impl.RunMany(p, r, nil, c.fuel); !sameRun(got, want) {
			t.Errorf("%d steps are %+v, not %+v", c.fuel, got, want)
		}
	}
	for _, fuel := range []int{mostFuel + 1, mostFuel + 2, 65536, math.MaxInt} {
		for _, at := range []run{r, {State: done, Out: 4}, {State: deep}} {
			if got := impl.RunMany(p, at, nil, fuel); !sameRun(got, run{}) {
				t.Errorf("%d steps are %+v", fuel, got)
			}
		}
	}
}

// With fewer numbers coming in than are asked for, with as many, and with more; only steps that ask for one take one.
func TestRunManyByWhatComesIn(t *testing.T) {
	p := read(t, "procs 2",
		"proc 0 9 size 6", "any b 0 9", "add a a b", "call c 1 b", "any b 10 19", "set d 0", "ret a",
		"proc 0 9 size 3", "any b 100 199", "set c 5", "ret b")
	for _, c := range []struct {
		ins        []int
		b, c, last int
	}{
		{nil, 0, 100, 10}, {[]int{}, 0, 100, 10}, {[]int{3}, 3, 100, 10}, {[]int{3, 4}, 3, 104, 10},
		// The third one is for the step that has one number alone, and the one behind that for b.
		{[]int{3, 4, 5}, 3, 104, 10}, {[]int{3, 4, 5, 6}, 3, 104, 16}, {[]int{3, 4, 5, 6, 7}, 3, 104, 16},
		{[]int{3, 4, 5, 6, 7, 8, 9, 10, 11, 12}, 3, 104, 16}, {[]int{-1, -1, -1, -1}, 9, 199, 19},
		{[]int{math.MaxInt, math.MinInt, 0, math.MaxInt}, 7, 192, 17},
	} {
		r := going(begun(0, 2))
		checkMany(t, p, r, c.ins, mostFuel)
		// 1 any, 2 add, 3 call, 4 any, 5 set, 6 ret, 7 any.
		want := going(call{Pc: 4, Vars: []int{2 + c.b, c.last, c.c, 0}, Cells: []int{0, 0, 0, 0}})
		if got := impl.RunMany(p, r, c.ins, 7); !sameRun(got, want) {
			t.Errorf("of %v comes %+v, not %+v", c.ins, got, want)
		}
	}
}

func TestRunManyIsRunStepSoManyTimes(t *testing.T) {
	r := rand.New(rand.NewSource(351))
	for k := range 600 {
		p := lively(r, 1+k%mostProcs)
		for _, at := range placedRuns(r, p, 2) {
			var ins []int
			for range r.Intn(12) {
				ins = append(ins, drawnIn(r))
			}
			for _, fuel := range []int{-5, 0, 1, 2, 3, 10, 50, mostFuel} {
				checkMany(t, p, at, ins, fuel)
			}
		}
	}
}

func TestPromise36ARunBeginsWithWhatItsProcedureMayBeGiven(t *testing.T) {
	for _, p := range drawnPrograms(300) {
		for _, k := range append(counts(), -2) {
			for _, arg := range append(noNumbers(), least, -1, 0, 1, greatest) {
				checkNew(t, p, k, arg)
			}
			if k >= 0 && k < len(p.Procs) {
				c := p.Procs[k]
				for _, arg := range []int{c.Lo - 1, c.Lo, c.Lo + 1, (c.Lo + c.Hi) / 2, c.Hi - 1, c.Hi, c.Hi + 1} {
					checkNew(t, p, k, arg)
				}
			}
		}
	}
}

func checkNew(t *testing.T, p prog, k, arg int) {
	t.Helper()
	want := run{}
	if k >= 0 && k < len(p.Procs) && arg >= p.Procs[k].Lo && arg <= p.Procs[k].Hi {
		want = going(begun(k, arg))
	}
	got := impl.RunNew(p, k, arg)
	if !sameRun(got, want) {
		t.Fatalf("RunNew(%+v, %d, %d) = %+v, not %+v", p, k, arg, got, want)
	}
	is := want.State == goes
	if impl.RunOk(p, got) != is || (impl.RunDepth(p, got) == 1) != is {
		t.Fatalf("RunNew(%+v, %d, %d) = %+v is ok: %v", p, k, arg, got, !is)
	}
}

// closed is a program of which each step that asks for a number has one bound.
func closed(r *rand.Rand, procs int) prog {
	p := lively(r, procs)
	for k := range p.Procs {
		for pc := range p.Procs[k].Code {
			i := &p.Procs[k].Code[pc]
			if i.Op == impl.OpAny {
				i.Lo = r.Intn(7) - 2
				i.Hi = i.Lo
			}
		}
	}
	return p
}

func TestPromise37WhereNothingIsOpenWhatComesInMakesNoDifference(t *testing.T) {
	r := rand.New(rand.NewSource(37))
	for k := range 400 {
		p := closed(r, 1+k%mostProcs)
		for _, at := range placedRuns(r, p, 3) {
			fuel := r.Intn(mostFuel + 1)
			want := impl.RunMany(p, at, nil, fuel)
			for _, ins := range [][]int{{}, {1}, {-1, -1, -1}, someIns(), {drawnIn(r), drawnIn(r)}} {
				if got := impl.RunMany(p, at, ins, fuel); !sameRun(got, want) {
					t.Fatalf("by %+v with %v %+v comes to %+v, not %+v", p, ins, at, got, want)
				}
			}
		}
	}
}

func TestPromise37WhatIsTakenIsInTheBounds(t *testing.T) {
	for _, b := range append(narrowBounds(), wideBounds()...) {
		p := read(t, "procs 1", "proc 0 0 size 2", textOf(ins{Op: impl.OpAny, D: 1, Lo: b.Lo, Hi: b.Hi}), "ret b")
		for _, in := range someIns() {
			got := impl.RunStep(p, going(begun(0, 0)), in)
			if got.State != goes || !has(b, got.Frames[0].Vars[1]) {
				t.Fatalf("of %v %d takes %+v", b, in, got)
			}
		}
	}
}

// Each number of the bounds can come.
func TestWhatComesInCanBeAnyNumberOfTheBounds(t *testing.T) {
	for _, b := range []bounds{itv(0, 0), itv(-4, 5), itv(least, least+2), itv(greatest-6, greatest), itv(-300, 300)} {
		p := read(t, "procs 1", "proc 0 0 size 2", textOf(ins{Op: impl.OpAny, D: 1, Lo: b.Lo, Hi: b.Hi}), "ret b")
		for n := b.Lo; n <= b.Hi; n++ {
			if got := impl.RunMany(p, going(begun(0, 0)), []int{n - b.Lo}, 2); !sameRun(got, run{State: done, Out: n}) {
				t.Fatalf("%d of %v is %+v", n, b, got)
			}
		}
	}
}

func TestPromise38CallsAreNotTooDeep(t *testing.T) {
	most := 0
	walks(600, 60, func(p prog, r run, in int) {
		next := impl.RunStep(p, r, in)
		was, now := impl.RunDepth(p, r), impl.RunDepth(p, next)
		most = max(most, now)
		if now != len(next.Frames) || (next.State == goes) != (now >= 1 && now <= mostDepth) || next.State != goes && now != 0 {
			t.Fatalf("%+v has %d calls", next, now)
		}
		if next.State == goes && (now > was+1 || now < was-1) {
			t.Fatalf("a step from %d calls to %d", was, now)
		}
	})
	if most != mostDepth {
		t.Errorf("no run was drawn that has %d calls", mostDepth)
	}
}

// Each call is in the one that came before, till one is too many.
func TestHowDeepCallsAre(t *testing.T) {
	p := read(t, "procs 1", "proc 0 9 size 2", "call b 0 a", "ret b")
	r := impl.RunNew(p, 0, 3)
	for depth := 1; depth <= mostDepth; depth++ {
		if r.State != goes || len(r.Frames) != depth || impl.RunDepth(p, r) != depth {
			t.Fatalf("%d calls are %+v", depth, r)
		}
		r = impl.RunStep(p, r, 0)
	}
	if !sameRun(r, run{State: deep}) || impl.RunDepth(p, r) != 0 || !impl.RunOk(p, r) {
		t.Fatalf("one call too many is %+v", r)
	}
}

// Down to a depth, and back: RunMaxDepth calls are not too many.
func TestRunsThatComeBack(t *testing.T) {
	p := read(t, "procs 1", "proc 0 9 size 6", "set c 1", "if a < c 5", "sub b a c", "call b 0 b", "add a b c", "ret a")
	for arg := range 10 {
		want := run{State: done, Out: arg}
		if arg >= mostDepth {
			want = run{State: deep}
		}
		if got := impl.RunMany(p, impl.RunNew(p, 0, arg), nil, mostFuel); !sameRun(got, want) {
			t.Errorf("given %d it is %+v, not %+v", arg, got, want)
		}
	}
}

// Many at once, of the same program and the same run, tell what one alone tells.
func TestRunsAtOnce(t *testing.T) {
	p := tower(t)
	starts := []run{going(begun(0, 3)), stacked(5, 0), stacked(3, 3), stacked(2, 2)}
	got := make([]run, 64)
	var all sync.WaitGroup
	for k := range got {
		all.Add(1)
		go func() {
			defer all.Done()
			got[k] = impl.RunMany(p, starts[k%len(starts)], []int{k}, 7)
		}()
	}
	all.Wait()
	for k := range got {
		if want := went(p, starts[k%len(starts)], []int{k}, 7); !sameRun(got[k], want) {
			t.Errorf("at once %d is %+v, not %+v", k, got[k], want)
		}
	}
}

// However a run ends, and if there is none, nobody goes on behind the call.
func TestNobodyIsLeftBehindARun(t *testing.T) {
	was := runtime.NumGoroutine()
	p := tower(t)
	for k := range 200 {
		impl.RunNew(p, 0, k)
		impl.RunStep(p, stacked(1+k%5, k%4), k)
		impl.RunMany(p, stacked(1+k%5, k%4), []int{k}, k)
		impl.RunMany(p, stacked(1, 0), nil, mostFuel+1)
		impl.RunStep(p, run{State: deep}, k)
		impl.RunStep(p, run{State: 9}, k)
	}
	mustBeGone(t, was)
}

// mustBeGone asks that no more goroutines are there than there were, or soon are not.
func mustBeGone(t *testing.T, was int) {
	t.Helper()
	for range 200 {
		if runtime.NumGoroutine() <= was {
			return
		}
		time.Sleep(5 * time.Millisecond)
	}
	t.Errorf("%d were there, %d are now", was, runtime.NumGoroutine())
}
