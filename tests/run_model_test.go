package tests

import (
	"math"
	"math/big"
	"math/rand"
	"reflect"
	"testing"

	"loop.example/outwork/impl"
)

// How runs stand, and how far they go, is written out, so that a constant that was turned is seen.
const (
	goes      = 1
	done      = 2
	fails     = 3
	deep      = 4
	mostDepth = 5
	mostFuel  = 300
)

type (
	run  = impl.RunRun
	call = impl.RunFrame
)

// copied shares nothing with a run; a list that is empty is nil.
func copied(r run) run {
	out := r
	out.Frames = nil
	for _, f := range r.Frames {
		f.Vars = append([]int(nil), f.Vars...)
		f.Cells = append([]int(nil), f.Cells...)
		out.Frames = append(out.Frames, f)
	}
	return out
}

func sameRun(a, b run) bool {
	return reflect.DeepEqual(copied(a), copied(b))
}

// begun is a call at its beginning.
func begun(proc, arg int) call {
	return call{Proc: proc, Vars: []int{arg, 0, 0, 0}, Cells: []int{0, 0, 0, 0}}
}

func going(calls ...call) run {
	return run{State: goes, Frames: calls}
}

func failedAt(proc, pc int) run {
	return run{State: fails, Proc: proc, Pc: pc}
}

// leftOf is what is left of any number, divided by so many, from 0 on; big numbers know no ends at which that could go wrong.
func leftOf(in, many int) int {
	return int(new(big.Int).Mod(big.NewInt(int64(in)), big.NewInt(int64(many))).Int64())
}

// stepped is what RunStep should tell of a run that is ok.
func stepped(p prog, was run, in int) run {
	r := copied(was)
	if r.State != goes {
		return r
	}
	top := len(r.Frames) - 1
	f := r.Frames[top]
	i := p.Procs[f.Proc].Code[f.Pc]
	switch i.Op {
	case impl.OpCall:
		return called(p, r, i)
	case impl.OpRet:
		return returned(p, r, f.Vars[i.A])
	}
	if failing(i, f) {
		return failedAt(f.Proc, f.Pc)
	}
	r.Frames[top] = turned(i, f, in)
	return r
}

func failing(i ins, f call) bool {
	a, b := f.Vars[i.A], f.Vars[i.B]
	switch i.Op {
	case impl.OpDiv:
		return b == 0
	case impl.OpLoad, impl.OpStore:
		return a < 0 || a > 3
	case impl.OpAssert:
		return !standsSo(i.Rel, a, b)
	}
	return false
}

// turned is a call behind a step that calls and ends nothing, and does not fail.
func turned(i ins, f call, in int) call {
	a, b := f.Vars[i.A], f.Vars[i.B]
	f.Pc++
	switch i.Op {
	case impl.OpAdd, impl.OpSub, impl.OpMul, impl.OpDiv:
		n, _ := plain(i.Op, a, b)
		f.Vars[i.D] = wrapped(n)
	case impl.OpAny:
		f.Vars[i.D] = i.Lo + leftOf(in, i.Hi-i.Lo+1)
	case impl.OpLoad:
		f.Vars[i.D] = f.Cells[a]
	case impl.OpStore:
		f.Cells[a] = b
	case impl.OpIf:
		if standsSo(i.Rel, a, b) {
			f.Pc = i.To
		}
	case impl.OpJump:
		f.Pc = i.To
	}
	return f
}

func called(p prog, r run, i ins) run {
	f := r.Frames[len(r.Frames)-1]
	arg := f.Vars[i.A]
	if arg < p.Procs[i.To].Lo || arg > p.Procs[i.To].Hi {
		return failedAt(f.Proc, f.Pc)
	}
	if len(r.Frames) == mostDepth {
		return run{State: deep}
	}
	r.Frames = append(r.Frames, begun(i.To, arg))
	return r
}

func returned(p prog, r run, out int) run {
	r.Frames = r.Frames[:len(r.Frames)-1]
	if len(r.Frames) == 0 {
		return run{State: done, Out: out}
	}
	f := &r.Frames[len(r.Frames)-1]
	f.Vars[p.Procs[f.Proc].Code[f.Pc].D] = out
	f.Pc++
	return r
}

// went is what RunMany should tell of a run that is ok, with fuel that is not too much.
func went(p prog, r run, ins []int, fuel int) run {
	r = copied(r)
	for ; fuel > 0 && r.State == goes; fuel-- {
		in := 0
		f := r.Frames[len(r.Frames)-1]
		if p.Procs[f.Proc].Code[f.Pc].Op == impl.OpAny && len(ins) > 0 {
			in, ins = ins[0], ins[1:]
		}
		r = stepped(p, r, in)
	}
	return r
}

func checkStep(t *testing.T, p prog, r run, in int) {
	t.Helper()
	if got, want := impl.RunStep(p, r, in), stepped(p, r, in); !sameRun(got, want) {
		t.Fatalf("RunStep(%+v, %+v, %d) = %+v, not %+v", p, r, in, got, want)
	}
}

func checkMany(t *testing.T, p prog, r run, ins []int, fuel int) {
	t.Helper()
	if got, want := impl.RunMany(p, r, ins, fuel), went(p, r, ins, fuel); !sameRun(got, want) {
		t.Fatalf("RunMany(%+v, %+v, %v, %d) = %+v, not %+v", p, r, ins, fuel, got, want)
	}
}

// read is the program that lines tell.
func read(t *testing.T, lines ...string) prog {
	t.Helper()
	p, wrong := impl.PrgParse(lines)
	if wrong != 0 {
		t.Fatalf("line %d of %q is wrong", wrong, lines)
	}
	return p
}

// lively is a program with small numbers and many calls, of which few runs fail at once.
func lively(r *rand.Rand, procs int) prog {
	p := drawn(r, procs, mostSteps)
	for k := range p.Procs {
		p.Procs[k].Lo, p.Procs[k].Hi = -r.Intn(20), r.Intn(20)
		for pc := range p.Procs[k].Code {
			i := &p.Procs[k].Code[pc]
			if i.Op == impl.OpAny {
				i.Lo, i.Hi = -r.Intn(3), r.Intn(5)
			}
		}
	}
	return p
}

// walks are runs that came of programs drawn, from their beginning on, with what comes in drawn too; each run that was on the way is told.
func walks(many, length int, see func(p prog, r run, in int)) {
	r := rand.New(rand.NewSource(34))
	for k := range many {
		p := lively(r, 1+k%mostProcs)
		if k%5 == 0 {
			p = drawn(r, 1+k%mostProcs, mostSteps)
		}
		proc := r.Intn(len(p.Procs))
		c := p.Procs[proc]
		at := going(begun(proc, c.Lo+r.Intn(c.Hi-c.Lo+1)))
		for range length {
			in := drawnIn(r)
			see(p, at, in)
			at = stepped(p, at, in)
		}
	}
}

func drawnIn(r *rand.Rand) int {
	all := someIns()
	if r.Intn(2) == 0 {
		return all[r.Intn(len(all))]
	}
	return int(r.Uint64())
}

// someIns come in: 0, near it on both sides, about the ends of numbers, and very far from 0.
func someIns() []int {
	return []int{
		0, 1, 2, 3, 7, -1, -2, -3, -7, greatest, greatest + 1, least, least - 1,
		65535, 65536, 65537, -65535, -65536, -65537, math.MaxInt, math.MaxInt - 1, math.MinInt, math.MinInt + 1,
	}
}

// placedRuns are runs of a program of which the top call is anywhere, with numbers drawn; calls below it are at steps that call it.
func placedRuns(r *rand.Rand, p prog, many int) []run {
	var out []run
	for range many {
		proc := r.Intn(len(p.Procs))
		calls := []call{drawnCall(r, proc, r.Intn(len(p.Procs[proc].Code)))}
		for range r.Intn(mostDepth) {
			below, ok := callerOf(r, p, calls[0].Proc)
			if !ok {
				break
			}
			calls = append([]call{below}, calls...)
		}
		out = append(out, going(calls...))
	}
	return out
}

func drawnCall(r *rand.Rand, proc, pc int) call {
	f := call{Proc: proc, Pc: pc}
	numbers := append(someNumbers(), 0, 1, 2, 3, 0, 1, 2, 3, -1, 4)
	for range 4 {
		f.Vars = append(f.Vars, numbers[r.Intn(len(numbers))])
		f.Cells = append(f.Cells, numbers[r.Intn(len(numbers))])
	}
	return f
}

// callerOf is a call that is at a step which calls a procedure; false, if none does.
func callerOf(r *rand.Rand, p prog, to int) (call, bool) {
	var all []call
	for k, c := range p.Procs {
		for pc, i := range c.Code {
			if i.Op == impl.OpCall && i.To == to {
				all = append(all, drawnCall(r, k, pc))
			}
		}
	}
	if len(all) == 0 {
		return call{}, false
	}
	return all[r.Intn(len(all))], true
}
