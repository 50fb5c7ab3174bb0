package tests

import (
	"fmt"
	"math"
	"math/rand"
	"testing"

	"loop.example/outwork/impl"
)

// mustBeNone asks all that is told of a run that is not ok.
func mustBeNone(t *testing.T, p prog, r run, why string) {
	t.Helper()
	if impl.RunOk(p, r) || impl.RunDepth(p, r) != 0 {
		t.Fatalf("%s: %+v is ok by %+v", why, r, p)
	}
	if got := impl.RunStep(p, r, 3); !sameRun(got, run{}) {
		t.Fatalf("%s: RunStep(%+v) = %+v", why, r, got)
	}
	for _, fuel := range []int{-1, 0, 1, mostFuel, mostFuel + 1} {
		if got := impl.RunMany(p, r, []int{3}, fuel); !sameRun(got, run{}) {
			t.Fatalf("%s: RunMany(%+v, %d) = %+v", why, r, fuel, got)
		}
	}
}

func mustBeRun(t *testing.T, p prog, r run) {
	t.Helper()
	if !impl.RunOk(p, r) || impl.RunDepth(p, r) != len(r.Frames) {
		t.Fatalf("%+v is not ok by %+v, or has %d calls", r, p, impl.RunDepth(p, r))
	}
}

// chain is a program in which each procedure calls another one; the third one has steps of each kind that may fail.
func chain(t *testing.T) prog {
	return read(t, "procs 4",
		"proc 0 9 size 4", "set b 1", "call c 1 a", "call c 2 a", "ret c",
		"proc 0 9 size 3", "call d 2 a", "call d 1 a", "ret d",
		"proc 0 9 size 10", "div a a b", "load a b", "store a b", "assert a = b", "add a a b", "any a 0 3", "if a = b 7", "jump 8", "call b 3 a", "ret a",
		"proc 0 9 size 1", "ret a")
}

// linked is a run of chain: 0 calls 1, which calls itself, and then 2; 2 calls 3.
func linked() run {
	return going(
		call{Proc: 0, Pc: 1, Vars: []int{1, 2, 3, 4}, Cells: []int{5, 6, 7, 8}},
		call{Proc: 1, Pc: 1, Vars: []int{least, greatest, 0, -1}, Cells: []int{greatest, least, 0, 1}},
		call{Proc: 1, Pc: 0, Vars: []int{9, 8, 7, 6}, Cells: []int{5, 4, 3, 2}},
		call{Proc: 2, Pc: 8, Vars: []int{1, 1, 1, 1}, Cells: []int{2, 2, 2, 2}},
		call{Proc: 3, Pc: 0, Vars: []int{0, 0, 0, 0}, Cells: []int{0, 0, 0, 0}},
	)
}

// badPrograms are not ok, by how many procedures or steps there are, by bounds, by a step, and by the last one.
func badPrograms(t *testing.T) []prog {
	bent := clone(chain(t))
	bent.Procs[3].Lo = 10
	step := clone(chain(t))
	step.Procs[2].Code[4].Rel = 1
	last := clone(chain(t))
	last.Procs[0].Code[3] = ins{Op: impl.OpAdd}
	more := clone(chain(t))
	more.Procs = append(more.Procs, more.Procs[3])
	long := clone(chain(t))
	long.Procs[2].Code = append(long.Procs[2].Code, ins{Op: impl.OpRet})
	none := clone(chain(t))
	none.Procs[1].Code = nil
	return []prog{{}, {Procs: []proc{}}, {Procs: make([]proc, 4)}, bent, step, last, more, long, none}
}

func TestRunsOfProgramsThatAreNotOk(t *testing.T) {
	for _, p := range badPrograms(t) {
		mustNotBeOk(t, p)
		for _, r := range []run{linked(), going(begun(0, 0)), {State: done}, failedAt(2, 0), failedAt(0, 1), {State: deep}, {}} {
			mustBeNone(t, p, r, "by a program that is not ok")
		}
		for _, k := range []int{-1, 0, 1, 3, 4} {
			if got := impl.RunNew(p, k, 0); !sameRun(got, run{}) {
				t.Fatalf("RunNew(%+v, %d, 0) = %+v", p, k, got)
			}
		}
	}
}

func TestRunOkByState(t *testing.T) {
	p := chain(t)
	mustBeRun(t, p, linked())
	mustBeRun(t, p, run{State: done})
	for _, state := range []int{math.MinInt, -1, 0, 5, 6, 100, 65537, math.MaxInt} {
		bent := linked()
		bent.State = state
		mustBeNone(t, p, bent, "a State that is none")
		mustBeNone(t, p, run{State: state}, "a State that is none")
		mustBeNone(t, p, run{State: state, Out: 3}, "a State that is none")
		mustBeNone(t, p, run{State: state, Proc: 2}, "a State that is none")
	}
	for _, state := range []int{done, fails, deep} {
		bent := linked()
		bent.State = state
		mustBeNone(t, p, bent, "calls beside another State")
		// A place at which it may have failed, so that the calls alone are wrong.
		bent.Proc = 2
		mustBeNone(t, p, bent, "calls beside another State")
		mustBeNone(t, p, run{State: fails, Proc: 2, Frames: []call{begun(2, 0)}}, "a call beside RunFails")
		mustBeNone(t, p, run{State: state, Frames: []call{begun(0, 0)}}, "a call beside another State")
		mustBeNone(t, p, run{State: state, Frames: []call{{}}}, "a call beside another State")
	}
}

func TestRunOkByOut(t *testing.T) {
	p := chain(t)
	for _, n := range append(someNumbers(), noNumbers()...) {
		r := run{State: done, Out: n}
		if isNumber(n) {
			mustBeRun(t, p, r)
		} else {
			mustBeNone(t, p, r, "an Out that is no number")
		}
		if n == 0 {
			continue
		}
		bent := linked()
		bent.Out = n
		mustBeNone(t, p, bent, "an Out beside RunGoes")
		mustBeNone(t, p, run{State: deep, Out: n}, "an Out beside RunDeep")
		mustBeNone(t, p, run{State: fails, Out: n, Proc: 2}, "an Out beside RunFails")
	}
}

func TestRunOkByWhereItFailed(t *testing.T) {
	p := chain(t)
	risky := map[[2]int]int{{0, 1}: 1, {0, 2}: 1, {1, 0}: 1, {1, 1}: 1, {2, 0}: 1, {2, 1}: 1, {2, 2}: 1, {2, 3}: 1, {2, 8}: 1}
	for _, k := range counts() {
		for _, pc := range append(counts(), 6, 7, 8) {
			r := failedAt(k, pc)
			if risky[[2]int{k, pc}] == 1 {
				mustBeRun(t, p, r)
			} else {
				mustBeNone(t, p, r, "where no step may fail")
			}
			if k == 0 && pc == 0 {
				continue
			}
			bent := linked()
			bent.Proc, bent.Pc = k, pc
			mustBeNone(t, p, bent, "a place beside RunGoes")
			mustBeNone(t, p, run{State: done, Out: 1, Proc: k, Pc: pc}, "a place beside RunDone")
			mustBeNone(t, p, run{State: deep, Proc: k, Pc: pc}, "a place beside RunDeep")
		}
	}
}

func TestRunOkByHowManyCalls(t *testing.T) {
	p := chain(t)
	mustBeNone(t, p, run{State: goes}, "no calls")
	mustBeNone(t, p, going([]call{}...), "no calls")
	self := call{Proc: 1, Pc: 1, Vars: []int{0, 0, 0, 0}, Cells: []int{0, 0, 0, 0}}
	var calls []call
	for many := 1; many <= 9; many++ {
		calls = append(calls, self)
		if many <= mostDepth {
			mustBeRun(t, p, going(calls...))
		} else {
			mustBeNone(t, p, going(calls...), "calls too many")
		}
	}
	for from := range linked().Frames {
		mustBeRun(t, p, going(linked().Frames[from:]...))
	}
}

// In each call, the top one and those below.
func TestRunOkByPlaces(t *testing.T) {
	p := chain(t)
	for k := range linked().Frames {
		for _, proc := range []int{math.MinInt, -1, 4, 5, math.MaxInt} {
			bent := linked()
			bent.Frames[k].Proc = proc
			mustBeNone(t, p, bent, "a procedure that is none")
		}
		size := len(p.Procs[linked().Frames[k].Proc].Code)
		for _, pc := range []int{math.MinInt, -1, size, size + 1, math.MaxInt} {
			bent := linked()
			bent.Frames[k].Pc = pc
			mustBeNone(t, p, bent, "a place that is none")
		}
	}
	for k, c := range p.Procs {
		for pc := range c.Code {
			top := begun(k, 0)
			top.Pc = pc
			mustBeRun(t, p, going(top))
		}
	}
}

func TestRunOkByNumbers(t *testing.T) {
	p := chain(t)
	for k := range linked().Frames {
		for _, size := range []int{0, 1, 3, 5, 6, 1000} {
			vars, cells := linked(), linked()
			vars.Frames[k].Vars = make([]int, size)
			mustBeNone(t, p, vars, "too few or too many variables")
			cells.Frames[k].Cells = make([]int, size)
			mustBeNone(t, p, cells, "too few or too many cells")
		}
		nils := linked()
		nils.Frames[k].Vars = nil
		mustBeNone(t, p, nils, "no variables")
		for at := range 4 {
			for _, n := range append(noNumbers(), least, greatest) {
				vars, cells := linked(), linked()
				vars.Frames[k].Vars[at] = n
				cells.Frames[k].Cells[at] = n
				if isNumber(n) {
					mustBeRun(t, p, vars)
					mustBeRun(t, p, cells)
				} else {
					mustBeNone(t, p, vars, "a variable that is no number")
					mustBeNone(t, p, cells, "a cell that is no number")
				}
			}
		}
	}
}

// A call below another one is at a step that calls that one's procedure; each other place of each procedure is tried.
func TestRunOkByCallsBelow(t *testing.T) {
	p := chain(t)
	for _, top := range upTo(4) {
		for k, c := range p.Procs {
			for pc, i := range c.Code {
				below := begun(k, 0)
				below.Pc = pc
				r := going(below, begun(top, 0))
				if i.Op == impl.OpCall && i.To == top {
					mustBeRun(t, p, r)
				} else {
					mustBeNone(t, p, r, "a call below that is at no call of the next one's procedure")
				}
			}
		}
	}
	for k := range len(linked().Frames) - 1 {
		bent := linked()
		f := &bent.Frames[k]
		f.Pc = len(p.Procs[f.Proc].Code) - 1
		mustBeNone(t, p, bent, "a call below that is at no OpCall")
	}
	// What the call below gave need not be what the one above was given, and that may be anything by now.
	far := linked()
	far.Frames[1].Vars[0] = least
	far.Frames[4].Vars[0] = greatest
	mustBeRun(t, p, far)
}

func TestRunNewOfWrongInputs(t *testing.T) {
	p := chain(t)
	for _, k := range append(counts(), -2) {
		for _, arg := range append(noNumbers(), -1, 0, 9, 10) {
			checkNew(t, p, k, arg)
		}
	}
}

// roomy is a run with room behind the end of each list, all of it filled.
func roomy(r run) run {
	out := r
	out.Frames = append(make([]call, 0, 16), r.Frames...)
	for k := range out.Frames {
		out.Frames[k].Vars = withRoom(r.Frames[k].Vars)
		out.Frames[k].Cells = withRoom(r.Frames[k].Cells)
	}
	spare := out.Frames[len(out.Frames):cap(out.Frames)]
	for k := range spare {
		spare[k] = call{Proc: 71, Pc: 72, Vars: []int{73}, Cells: []int{74}}
	}
	return out
}

func withRoom(list []int) []int {
	out := append(make([]int, 0, len(list)+8), list...)
	for k := len(list); k < cap(out); k++ {
		out[:cap(out)][k] = 75
	}
	return out
}

// whole tells a run with all that is behind its lists' ends.
func whole(r run) string {
	s := fmt.Sprintf("%+v %+v", r, r.Frames[:cap(r.Frames)])
	for _, f := range r.Frames {
		s += fmt.Sprint(f.Vars[:cap(f.Vars)], f.Cells[:cap(f.Cells)])
	}
	return s
}

// scribble writes into all that a run has, behind its lists' ends too.
func scribble(r run) {
	for k := range r.Frames[:cap(r.Frames)] {
		f := &r.Frames[:cap(r.Frames)][k]
		for _, list := range [][]int{f.Vars[:cap(f.Vars)], f.Cells[:cap(f.Cells)]} {
			for at := range list {
				list[at] = -99
			}
		}
		*f = call{Proc: -98, Pc: -97}
	}
}

// checkMemory asks that what was handed in is as it was, even if all of the answer is written over.
func checkMemory(t *testing.T, p prog, given run, ins []int, ask func(r run) run) {
	t.Helper()
	r := roomy(given)
	wasRun, wasProg, wasIns := whole(r), fmt.Sprintf("%+v", p), fmt.Sprint(ins[:cap(ins)])
	got := ask(r)
	checkLists(t, got)
	scribble(got)
	if whole(r) != wasRun || fmt.Sprintf("%+v", p) != wasProg || fmt.Sprint(ins[:cap(ins)]) != wasIns {
		t.Fatalf("%s became %s, %s became %+v, or %s became %v", wasRun, whole(r), wasProg, p, wasIns, ins[:cap(ins)])
	}
}

// checkLists writes each list of an answer, its room too, full of a number of its own, and looks for them behind all were written.
func checkLists(t *testing.T, r run) {
	t.Helper()
	var lists [][]int
	for _, f := range r.Frames {
		lists = append(lists, f.Vars[:cap(f.Vars)], f.Cells[:cap(f.Cells)])
	}
	for k, list := range lists {
		for at := range list {
			list[at] = 1000 + k
		}
	}
	for k, list := range lists {
		for _, n := range list {
			if n != 1000+k {
				t.Fatalf("lists %d and %d of one answer share memory", k, n-1000)
			}
		}
	}
}

func TestRunsShareNoMemory(t *testing.T) {
	ins := withRoom([]int{1, 2, 3})
	r := rand.New(rand.NewSource(7))
	for k := range 300 {
		p := lively(r, 1+k%mostProcs)
		for _, at := range placedRuns(r, p, 3) {
			checkMemory(t, p, at, ins, func(r run) run { return impl.RunStep(p, r, 5) })
			for _, fuel := range []int{-1, 0, 1, 2, 3, 20, mostFuel, mostFuel + 1} {
				checkMemory(t, p, at, ins, func(r run) run { return impl.RunMany(p, r, ins, fuel) })
			}
			checkMemory(t, p, at, ins, func(r run) run {
				impl.RunOk(p, r)
				impl.RunDepth(p, r)
				return impl.RunNew(p, 0, p.Procs[0].Lo)
			})
		}
	}
	p := endedProgram(t)
	for _, at := range append(ended(), run{}) {
		checkMemory(t, p, at, ins, func(r run) run { return impl.RunStep(p, r, 5) })
		checkMemory(t, p, at, ins, func(r run) run { return impl.RunMany(p, r, ins, 5) })
	}
}

// A run that is not ok is left as it was, too.
func TestRunsThatAreNotOkShareNoMemory(t *testing.T) {
	p := chain(t)
	ins := withRoom([]int{1})
	for _, bend := range []func(*run){
		func(r *run) { r.State = 0 },
		func(r *run) { r.Frames[4].Vars[3] = greatest + 1 },
		func(r *run) { r.Frames[0].Pc = 0 },
	} {
		r := linked()
		bend(&r)
		mustBeNone(t, p, r, "bent")
		checkMemory(t, p, r, ins, func(r run) run { return impl.RunStep(p, r, 5) })
		checkMemory(t, p, r, ins, func(r run) run { return impl.RunMany(p, r, ins, 5) })
	}
}
