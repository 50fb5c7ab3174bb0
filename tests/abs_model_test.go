package tests

import (
	"math/rand"
	"slices"
	"testing"

	"loop.example/outwork/impl"
)

type (
	state = impl.AbsState
	sum   = impl.SumSum
	edge  = impl.AbsEdge
)

// st is a state to which something comes: the bounds of a, b, c and d, and of the cells.
func st(a, b, c, d, cells bounds) state {
	return state{On: true, Vars: []bounds{a, b, c, d}, Cells: cells}
}

func gives(lo, hi int) sum {
	return sum{On: true, Out: itv(lo, hi)}
}

func to(place int, s state) edge {
	return edge{To: place, State: s}
}

// copiedState shares nothing with a state.
func copiedState(s state) state {
	return state{On: s.On, Vars: append([]bounds(nil), s.Vars...), Cells: s.Cells}
}

// sameState takes a list that is empty and one that is nil for the same.
func sameState(a, b state) bool {
	return a.On == b.On && slices.Equal(a.Vars, b.Vars) && a.Cells == b.Cells
}

func sameEdges(a, b []edge) bool {
	return slices.EqualFunc(a, b, func(x, y edge) bool { return x.To == y.To && sameState(x.State, y.State) })
}

// isState is what AbsOk should tell.
func isState(s state) bool {
	if !s.On {
		return sameState(s, state{})
	}
	return len(s.Vars) == 4 && !isBad(s.Cells) && !slices.ContainsFunc(s.Vars, isBad)
}

func isSum(s sum) bool {
	return s.On && !isBad(s.Out) || s == sum{}
}

// areSums is what SumsOk should tell by a program that is ok.
func areSums(p prog, all []sum) bool {
	return len(all) == len(p.Procs) && !slices.ContainsFunc(all, func(s sum) bool { return !isSum(s) })
}

// five are the bounds of a state, those of the cells last.
func five(s state) []bounds {
	return append(append([]bounds(nil), s.Vars...), s.Cells)
}

// isWithin is what AbsIn should tell of states that are ok.
func isWithin(a, b state) bool {
	if !a.On || !b.On {
		return !a.On
	}
	x, y := five(a), five(b)
	for k := range x {
		if x[k].Lo < y[k].Lo || x[k].Hi > y[k].Hi {
			return false
		}
	}
	return true
}

// byBounds is what comes of two states that are ok, bounds by bounds.
func byBounds(a, b state, by func(a, b bounds) bounds) state {
	if !a.On {
		return copiedState(b)
	}
	if !b.On {
		return copiedState(a)
	}
	x, y := five(a), five(b)
	for k := range x {
		x[k] = by(x[k], y[k])
	}
	return state{On: true, Vars: x[:4], Cells: x[4]}
}

func both(a, b bounds) bounds {
	return itv(min(a.Lo, b.Lo), max(a.Hi, b.Hi))
}

// grown goes on from each end that is beyond to a step, one by one.
func grown(a, b bounds) bounds {
	if b.Lo < a.Lo {
		a.Lo = walkToStep(b.Lo, -1)
	}
	if b.Hi > a.Hi {
		a.Hi = walkToStep(b.Hi, 1)
	}
	return a
}

// holds is what AbsHas should tell of a state that is ok.
func holds(s state, vars, cells []int) bool {
	if !s.On || len(vars) != 4 || len(cells) != 4 {
		return false
	}
	for k := range 4 {
		if !has(s.Vars[k], vars[k]) || !has(s.Cells, cells[k]) {
			return false
		}
	}
	return true
}

// mayDo says whether AbsFails and AbsStep have anything to tell of a step and a state, by a program that is ok.
func mayDo(p prog, i ins, s state) bool {
	return isOk(i, len(p.Procs), mostSteps) && isState(s) && s.On
}

// failsIn is what AbsFails should tell.
func failsIn(p prog, i ins, s state) bool {
	if !mayDo(p, i, s) {
		return false
	}
	a, b := s.Vars[i.A], s.Vars[i.B]
	switch i.Op {
	case impl.OpDiv:
		return b.Lo <= 0 && b.Hi >= 0
	case impl.OpLoad, impl.OpStore:
		return a.Lo < 0 || a.Hi > 3
	case impl.OpCall:
		return a.Lo < p.Procs[i.To].Lo || a.Hi > p.Procs[i.To].Hi
	case impl.OpAssert:
		_, _, may := impl.ItvNot(i.Rel, a, b)
		return may
	}
	return false
}

// cut is a state of which a variable's bounds are cut down; nothing, if nothing is left.
func cut(s state, v int, lo, hi int) state {
	if !s.On {
		return state{}
	}
	out := copiedState(s)
	out.Vars[v] = itv(max(out.Vars[v].Lo, lo), min(out.Vars[v].Hi, hi))
	if out.Vars[v].Lo > out.Vars[v].Hi {
		return state{}
	}
	return out
}

func put(s state, v int, b bounds) state {
	if !s.On {
		return state{}
	}
	out := copiedState(s)
	out.Vars[v] = b
	return out
}

// cutAs is a state as far as a step's A stands so to its B, or does not.
func cutAs(s state, i ins, so bool) state {
	ask := impl.ItvRel
	if !so {
		ask = impl.ItvNot
	}
	x, y, may := ask(i.Rel, s.Vars[i.A], s.Vars[i.B])
	if !may {
		return state{}
	}
	return cut(cut(s, i.A, x.Lo, x.Hi), i.B, y.Lo, y.Hi)
}

// quotient is the state behind OpDiv.
func quotient(s state, i ins) state {
	b := s.Vars[i.B]
	out, may := impl.ItvDo(impl.OpDiv, s.Vars[i.A], b)
	if !may {
		return state{}
	}
	if b.Lo == 0 {
		s = put(s, i.B, itv(1, b.Hi))
	}
	if b.Hi == 0 {
		s = put(s, i.B, itv(b.Lo, -1))
	}
	return put(s, i.D, out)
}

// onward is the state behind a step that leads to the next place alone.
func onward(p prog, all []sum, i ins, s state) state {
	switch i.Op {
	case impl.OpAdd, impl.OpSub, impl.OpMul:
		out, _ := impl.ItvDo(i.Op, s.Vars[i.A], s.Vars[i.B])
		return put(s, i.D, out)
	case impl.OpDiv:
		return quotient(s, i)
	case impl.OpAny:
		return put(s, i.D, itv(i.Lo, i.Hi))
	case impl.OpLoad:
		return put(cut(s, i.A, 0, 3), i.D, s.Cells)
	case impl.OpStore:
		out := cut(s, i.A, 0, 3)
		if out.On {
			out.Cells = both(s.Cells, s.Vars[i.B])
		}
		return out
	case impl.OpCall:
		if !all[i.To].On {
			return state{}
		}
		return put(cut(s, i.A, p.Procs[i.To].Lo, p.Procs[i.To].Hi), i.D, all[i.To].Out)
	}
	return cutAs(s, i, true)
}

// edgesOf is what AbsStep should tell by a program that is ok.
func edgesOf(p prog, all []sum, i ins, pc int, s state) []edge {
	if !mayDo(p, i, s) || !areSums(p, all) || pc < 0 || pc > 9 || i.Op == impl.OpRet {
		return nil
	}
	var ways []edge
	switch i.Op {
	case impl.OpJump:
		ways = []edge{to(i.To, s)}
	case impl.OpIf:
		ways = []edge{to(i.To, cutAs(s, i, true)), to(pc+1, cutAs(s, i, false))}
	default:
		ways = []edge{to(pc+1, onward(p, all, i, s))}
	}
	return slices.DeleteFunc(ways, func(e edge) bool { return !e.State.On })
}

// outOf is what AbsOut should tell.
func outOf(i ins, s state) sum {
	if i.Op != 12 || i.A < 0 || i.A > 3 || !s.On || !isState(s) {
		return sum{}
	}
	return sum{On: true, Out: s.Vars[i.A]}
}

// checkAbs asks all that is told of a step in a state.
func checkAbs(t *testing.T, p prog, all []sum, i ins, pc int, s state) {
	t.Helper()
	if got := impl.AbsFails(p, i, s); got != failsIn(p, i, s) {
		t.Fatalf("AbsFails(%+v, %+v, %+v) = %v", p, i, s, got)
	}
	if got, want := impl.AbsStep(p, all, i, pc, s), edgesOf(p, all, i, pc, s); !sameEdges(got, want) {
		t.Fatalf("AbsStep(%+v, %+v, %+v, %d, %+v) = %+v, not %+v", p, all, i, pc, s, got, want)
	}
	if got := impl.AbsOut(i, s); got != outOf(i, s) {
		t.Fatalf("AbsOut(%+v, %+v) = %+v", i, s, got)
	}
}

// somePool are bounds that states are drawn of: below, about and above 0 and the cells' places, single numbers, and all.
func somePool() []bounds {
	out := []bounds{itv(least, greatest), itv(least, least), itv(greatest, greatest), itv(least, -2), itv(2, greatest), itv(-300, 400), itv(181, 257)}
	return append(out, window(-2, 5)...)
}

// drawnState is a state to which something comes, but for one of a few.
func drawnState(r *rand.Rand) state {
	if r.Intn(12) == 0 {
		return state{}
	}
	pool := somePool()
	draw := func() bounds { return pool[r.Intn(len(pool))] }
	return st(draw(), draw(), draw(), draw(), draw())
}

// drawnStates are always the same.
func drawnStates(many int) []state {
	r := rand.New(rand.NewSource(7))
	out := []state{{}}
	for range many {
		out = append(out, drawnState(r))
	}
	return out
}

// drawnSums are ok by a program.
func drawnSums(r *rand.Rand, p prog) []sum {
	pool := somePool()
	var out []sum
	for range p.Procs {
		s := sum{On: true, Out: pool[r.Intn(len(pool))]}
		if r.Intn(4) == 0 {
			s = sum{}
		}
		out = append(out, s)
	}
	return out
}

// stateProgram has procedures that may be given all, some, one, and few numbers; and sums, of which one gives nothing.
func stateProgram(t *testing.T) (prog, []sum) {
	t.Helper()
	p := read(t, "procs 4",
		"proc -32768 32767 size 1", "ret a",
		"proc 3 5 size 1", "ret a",
		"proc 0 0 size 1", "ret a",
		"proc -7 2 size 1", "ret a")
	return p, []sum{gives(0, 0), gives(100, 200), {}, gives(least, greatest)}
}

// Each step with each variable, in states drawn, from each place.
func TestEachStepInDrawnStates(t *testing.T) {
	p, all := stateProgram(t)
	r := rand.New(rand.NewSource(77))
	seen := map[int]int{}
	for _, op := range allOps() {
		tos := []int{0, 4, 5, 9}
		if op == impl.OpCall {
			tos = upTo(4)
		}
		for _, i := range spread(op, upTo(4), []int{1, 2, 3, 4}, tos, []bounds{itv(4, 4), itv(-3, 9), itv(least, greatest)}) {
			for range 60 {
				pc, s := r.Intn(10), drawnState(r)
				checkAbs(t, p, all, i, pc, s)
				seen[100*op+len(edgesOf(p, all, i, pc, s))]++
			}
		}
	}
	for _, op := range allOps() {
		if op != impl.OpRet && (seen[100*op] == 0 || seen[100*op+1] == 0) {
			t.Errorf("Op %d was not seen to lead on, or not to lead on", op)
		}
	}
	if seen[100*impl.OpIf+2] == 0 {
		t.Error("no OpIf was seen with both ways open")
	}
}

// Each step of programs drawn, with sums drawn.
func TestEachStepOfDrawnPrograms(t *testing.T) {
	r := rand.New(rand.NewSource(78))
	for k := range 400 {
		p := lively(r, 1+k%mostProcs)
		all := drawnSums(r, p)
		for _, c := range p.Procs {
			for pc, i := range c.Code {
				for range 5 {
					checkAbs(t, p, all, i, pc, drawnState(r))
				}
			}
		}
	}
}
