package tests

import (
	"math"
	"math/rand"
	"testing"

	"loop.example/outwork/impl"
)

// alone is a program of one step, that step at place 1 of 4, with what it may lead to about it.
func alone(i ins) prog {
	ret := ins{Op: impl.OpRet, A: 1}
	return prog{Procs: []proc{
		{Lo: least, Hi: greatest, Code: []ins{ret, i, ret, ret}},
		{Lo: -5, Hi: 7, Code: []ins{ret}},
	}}
}

// before is a run in which the step of alone comes next.
func before(vars, cells [4]int) run {
	return going(call{Pc: 1, Vars: vars[:], Cells: cells[:]})
}

func TestRunConstants(t *testing.T) {
	got := [6]int{impl.RunGoes, impl.RunDone, impl.RunFails, impl.RunDeep, impl.RunMaxDepth, impl.RunMaxFuel}
	if want := [6]int{goes, done, fails, deep, mostDepth, mostFuel}; got != want {
		t.Errorf("the constants are %v, not %v", got, want)
	}
}

// Each Op, with D, A and B all the same variable, all other ones, and in each other way, with numbers at each edge.
func TestRunStepOfEachOpWithEachVariable(t *testing.T) {
	values := [][4]int{
		{0, 0, 0, 0}, {1, 2, 3, 4}, {3, 2, 1, 0}, {-1, 3, -2, 2}, {4, 4, 4, 4}, {-1, -1, -1, -1},
		{least, -1, greatest, 1}, {greatest, greatest, least, least}, {-7, 2, 7, -2}, {5, 5, 8, -6},
	}
	cells := [4]int{11, -22, least, greatest}
	for _, op := range allOps() {
		tos := []int{0, 1, 2, 3}
		if op == impl.OpCall {
			tos = []int{0, 1}
		}
		for _, i := range spread(op, upTo(4), []int{1, 2, 3, 4}, tos, []bounds{itv(4, 4), itv(-3, 9)}) {
			p := alone(i)
			mustBeOk(t, p)
			for _, vars := range values {
				for _, in := range []int{0, 20, -1} {
					checkStep(t, p, before(vars, cells), in)
				}
			}
		}
	}
}

func TestRunStepOfWhatReckons(t *testing.T) {
	for _, i := range []ins{{Op: 1, D: 2, B: 1}, {Op: 2, D: 2, B: 1}, {Op: 3, D: 2, B: 1}, {Op: 4, D: 2, B: 1}} {
		p := alone(i)
		for _, a := range someNumbers() {
			for _, b := range []int{least, least + 1, -256, -3, -1, 0, 1, 2, 181, greatest - 1, greatest} {
				checkStep(t, p, before([4]int{a, b, 77, 88}, [4]int{1, 2, 3, 4}), 0)
			}
		}
	}
}

type stepCase struct {
	i    ins
	vars [4]int
	want run
}

func checkStepCases(t *testing.T, cases []stepCase) {
	t.Helper()
	cells := [4]int{10, 20, 30, 40}
	for _, c := range cases {
		if got := impl.RunStep(alone(c.i), before(c.vars, cells), 0); !sameRun(got, c.want) {
			t.Errorf("%+v with %v leads to %+v, not %+v", c.i, c.vars, got, c.want)
		}
	}
}

// behind is a run that went on from before, to a place, with these numbers.
func behind(pc int, vars, cells [4]int) run {
	return going(call{Pc: pc, Vars: vars[:], Cells: cells[:]})
}

func TestRunStepAtTheEdgesOfWhatReckons(t *testing.T) {
	as := [4]int{10, 20, 30, 40}
	checkStepCases(t, []stepCase{
		{ins{Op: impl.OpDiv, D: 2, B: 1}, [4]int{7, 0, 5, 5}, failedAt(0, 1)},
		{ins{Op: impl.OpDiv}, [4]int{0, 1, 1, 1}, failedAt(0, 1)},
		{ins{Op: impl.OpDiv}, [4]int{-9, 1, 1, 1}, behind(2, [4]int{1, 1, 1, 1}, as)},
		{ins{Op: impl.OpDiv, D: 2, B: 1}, [4]int{least, -1, 5, 5}, behind(2, [4]int{least, -1, least, 5}, as)},
		{ins{Op: impl.OpDiv, D: 3, A: 1, B: 2}, [4]int{0, -7, 2, 5}, behind(2, [4]int{0, -7, 2, -3}, as)},
		{ins{Op: impl.OpAdd, D: 3, B: 1}, [4]int{greatest, 1, 5, 5}, behind(2, [4]int{greatest, 1, 5, least}, as)},
		{ins{Op: impl.OpSub, D: 3, B: 1}, [4]int{least, 1, 5, 5}, behind(2, [4]int{least, 1, 5, greatest}, as)},
		{ins{Op: impl.OpSub, D: 1, A: 2, B: 3}, [4]int{0, 0, 3, 5}, behind(2, [4]int{0, -2, 3, 5}, as)},
		{ins{Op: impl.OpSub, D: 3, A: 3, B: 3}, [4]int{1, 2, 3, 9}, behind(2, [4]int{1, 2, 3, 0}, as)},
		{ins{Op: impl.OpMul, D: 0, A: 3, B: 3}, [4]int{1, 2, 3, 256}, behind(2, [4]int{0, 2, 3, 256}, as)},
	})
}

// At cell 0, at the last one, one beyond it, and below 0.
func TestRunStepAtTheEdgesOfCells(t *testing.T) {
	as := [4]int{10, 20, 30, 40}
	load := ins{Op: impl.OpLoad, D: 2, A: 1}
	store := ins{Op: impl.OpStore, A: 1, B: 3}
	checkStepCases(t, []stepCase{
		{load, [4]int{9, 0, 9, 9}, behind(2, [4]int{9, 0, 10, 9}, as)},
		{load, [4]int{9, 3, 9, 9}, behind(2, [4]int{9, 3, 40, 9}, as)},
		{load, [4]int{0, 4, 0, 0}, failedAt(0, 1)},
		{load, [4]int{0, -1, 0, 0}, failedAt(0, 1)},
		{load, [4]int{0, greatest, 0, 0}, failedAt(0, 1)},
		{load, [4]int{0, least, 0, 0}, failedAt(0, 1)},
		{ins{Op: impl.OpLoad, D: 1, A: 1}, [4]int{9, 2, 9, 9}, behind(2, [4]int{9, 30, 9, 9}, as)},
		{store, [4]int{9, 0, 9, 7}, behind(2, [4]int{9, 0, 9, 7}, [4]int{7, 20, 30, 40})},
		{store, [4]int{9, 3, 9, least}, behind(2, [4]int{9, 3, 9, least}, [4]int{10, 20, 30, least})},
		{store, [4]int{0, 4, 0, 0}, failedAt(0, 1)},
		{store, [4]int{0, -1, 0, 0}, failedAt(0, 1)},
		{store, [4]int{0, greatest, 0, 0}, failedAt(0, 1)},
		{store, [4]int{0, least, 0, 0}, failedAt(0, 1)},
		{ins{Op: impl.OpStore, A: 1, B: 1}, [4]int{9, 2, 9, 9}, behind(2, [4]int{9, 2, 9, 9}, [4]int{10, 20, 2, 40})},
	})
}

// For each Rel what holds and what does not.
func TestRunStepAsksHowTwoStand(t *testing.T) {
	vars := [][2]int{{1, 2}, {2, 2}, {3, 2}, {least, greatest}, {greatest, least}, {0, -1}}
	holds := map[int][]bool{
		impl.RelLess:  {true, false, false, true, false, false},
		impl.RelMost:  {true, true, false, true, false, false},
		impl.RelSame:  {false, true, false, false, false, false},
		impl.RelOther: {true, false, true, true, true, true},
	}
	as := [4]int{10, 20, 30, 40}
	for rel, wants := range holds {
		for k, v := range vars {
			all := [4]int{9, v[0], 9, v[1]}
			ask := ins{Op: impl.OpIf, Rel: rel, A: 1, B: 3, To: 0}
			must := ins{Op: impl.OpAssert, Rel: rel, A: 1, B: 3}
			if wants[k] {
				checkStepCases(t, []stepCase{{ask, all, behind(0, all, as)}, {must, all, behind(2, all, as)}})
			} else {
				checkStepCases(t, []stepCase{{ask, all, behind(2, all, as)}, {must, all, failedAt(0, 1)}})
			}
		}
	}
}

func TestRunStepGoesWhereItSays(t *testing.T) {
	vars, as := [4]int{1, 2, 3, 4}, [4]int{10, 20, 30, 40}
	for to := range 4 {
		checkStepCases(t, []stepCase{
			{ins{Op: impl.OpJump, To: to}, vars, behind(to, vars, as)},
			{ins{Op: impl.OpIf, Rel: impl.RelSame, To: to}, vars, behind(to, vars, as)},
			{ins{Op: impl.OpIf, Rel: impl.RelOther, To: to}, vars, behind(2, vars, as)},
		})
	}
}

// With one number, with all, and others, of what comes in at 0, below 0, and very far from 0.
func TestRunStepTakesWhatComesIn(t *testing.T) {
	of := append(boundsOf(least, -7, 0, 1, greatest), itv(-3, 4), itv(least, 0), itv(5, 14))
	for _, b := range of {
		p := alone(ins{Op: impl.OpAny, D: 3, Lo: b.Lo, Hi: b.Hi})
		for _, in := range append(someIns(), someNumbers()...) {
			checkStep(t, p, before([4]int{1, 2, 3, 4}, [4]int{5, 6, 7, 8}), in)
		}
	}
	for _, c := range []struct{ lo, hi, in, want int }{
		{4, 4, 0, 4}, {4, 4, -1, 4}, {4, 4, math.MaxInt, 4}, {4, 4, math.MinInt, 4},
		{0, 9, 0, 0}, {0, 9, 9, 9}, {0, 9, 10, 0}, {0, 9, -1, 9}, {0, 9, -10, 0}, {0, 9, -11, 9},
		{-3, 3, 0, -3}, {-3, 3, 6, 3}, {-3, 3, 7, -3}, {-3, 3, -1, 3}, {-3, 3, -7, -3},
		{0, 9, math.MaxInt, 7}, {0, 9, math.MinInt, 2},
		{least, greatest, 0, least}, {least, greatest, 65535, greatest}, {least, greatest, 65536, least},
		{least, greatest, -1, greatest}, {least, greatest, math.MaxInt, greatest}, {least, greatest, math.MinInt, least},
	} {
		p := alone(ins{Op: impl.OpAny, D: 2, Lo: c.lo, Hi: c.hi})
		got := impl.RunStep(p, before([4]int{}, [4]int{}), c.in)
		if want := behind(2, [4]int{0, 0, c.want, 0}, [4]int{}); !sameRun(got, want) {
			t.Errorf("of %d..%d %d is taken as %+v, not %d", c.lo, c.hi, c.in, got, c.want)
		}
	}
}

// tower is a program of which procedure 0 calls itself, and 1, which may be given -5..7, and then adds.
func tower(t *testing.T) prog {
	return read(t, "procs 2",
		"proc -100 100 size 4", "call c 1 b", "call d 0 a", "add a c d", "ret a",
		"proc -5 7 size 2", "set d 9", "ret a")
}

// stacked is so many calls of procedure 0 at the call of itself, the top one at a place of it.
func stacked(many, pc int) run {
	r := run{State: goes}
	for k := range many {
		r.Frames = append(r.Frames, call{Pc: 1, Vars: []int{k, 10 * k, 100 * k, -k}, Cells: []int{k + 1, k + 2, k + 3, k + 4}})
	}
	r.Frames[many-1].Pc = pc
	return r
}

// At both ends of what may be given, and one beyond each, at each depth.
func TestRunStepOfCallsByWhatIsGiven(t *testing.T) {
	p := tower(t)
	for many := 1; many <= mostDepth; many++ {
		for _, arg := range []int{least, -6, -5, -4, 0, 6, 7, 8, greatest} {
			r := stacked(many, 0)
			r.Frames[many-1].Vars[1] = arg
			want := failedAt(0, 0)
			if arg >= -5 && arg <= 7 {
				want = copied(r)
				want.Frames = append(want.Frames, call{Proc: 1, Vars: []int{arg, 0, 0, 0}, Cells: []int{0, 0, 0, 0}})
				if many == mostDepth {
					want = run{State: deep}
				}
			}
			if got := impl.RunStep(p, r, 0); !sameRun(got, want) {
				t.Errorf("given %d, with %d calls: %+v, not %+v", arg, many, got, want)
			}
		}
	}
}

func TestRunStepOfReturns(t *testing.T) {
	p := tower(t)
	for many := 1; many <= mostDepth; many++ {
		r := stacked(many, 3)
		r.Frames[many-1].Vars[0] = 77
		want := run{State: done, Out: 77}
		if many > 1 {
			// D of the call below is d; its other variables and its cells are as they were.
			want = stacked(many-1, 2)
			want.Frames[many-2].Vars[3] = 77
		}
		if got := impl.RunStep(p, r, 0); !sameRun(got, want) {
			t.Errorf("with %d calls: %+v, not %+v", many, got, want)
		}
	}
	// By the step of the call below, not by that of the top one: what procedure 1 gives goes to c.
	r := stacked(2, 0)
	r.Frames = append(r.Frames, call{Proc: 1, Pc: 1, Vars: []int{least, 1, 2, 3}, Cells: []int{4, 5, 6, 7}})
	want := stacked(2, 1)
	want.Frames[1].Vars[2] = least
	if got := impl.RunStep(p, r, 0); !sameRun(got, want) {
		t.Errorf("procedure 1 gives %+v, not %+v", got, want)
	}
}

// What a call had is not seen by the next one, and what the one below has stays, from the call to behind it.
func TestACallHasItsOwnVariablesAndCells(t *testing.T) {
	p := read(t, "procs 2",
		"proc 0 3 size 10", "set b 2", "set c 50", "store b c", "call d 1 a", "call d 1 d", "load c b", "add a a b", "add a a c", "add a a d", "ret a",
		"proc 0 9 size 7", "set b 2", "load c b", "add d c a", "set c 5", "store b c", "add d d b", "ret d")
	for a := range 4 {
		// Each call of procedure 1 finds noughts, and gives 2 more than it was given.
		want := run{State: done, Out: a + 2 + 50 + a + 4}
		if got := impl.RunMany(p, going(begun(0, a)), nil, mostFuel); !sameRun(got, want) {
			t.Errorf("given %d it is %+v, not %+v", a, got, want)
		}
	}
}

// It has failed where the top call is, in whichever procedure and however deep; and nothing else is left.
func TestWhereARunHasFailed(t *testing.T) {
	p := read(t, "procs 3",
		"proc 0 9 size 2", "call b 1 a", "ret b",
		"proc 0 9 size 3", "set c 1", "call d 2 a", "ret d",
		"proc 0 5 size 6", "set b 3", "set c 100", "assert a != b", "set d 4", "div c c a", "ret c")
	for arg, want := range []run{
		failedAt(2, 4), {State: done, Out: 100}, {State: done, Out: 50}, failedAt(2, 2), {State: done, Out: 25},
		{State: done, Out: 20}, failedAt(1, 1), failedAt(1, 1), failedAt(1, 1), failedAt(1, 1), {},
	} {
		if got := impl.RunMany(p, impl.RunNew(p, 0, arg), nil, mostFuel); !sameRun(got, want) {
			t.Errorf("given %d it is %+v, not %+v", arg, got, want)
		}
	}
}

func TestRunStepAnywhere(t *testing.T) {
	r := rand.New(rand.NewSource(5))
	for k := range 1500 {
		p := lively(r, 1+k%mostProcs)
		for _, at := range placedRuns(r, p, 10) {
			checkStep(t, p, at, drawnIn(r))
		}
	}
}
