package tests

import (
	"fmt"
	"math"
	"reflect"
	"testing"

	"loop.example/outwork/impl"
)

// badStates are not ok: nothing comes there, but something else is not nothing; too few and too many variables; and bounds that are not ok, alone in one of them.
func badStates() []state {
	zero, some := itv(0, 0), itv(-3, 5)
	out := []state{
		{Cells: itv(0, 1)}, {Cells: itv(-1, 0)}, {Cells: itv(1, 1)}, {Cells: itv(1, 0)},
		{Vars: []bounds{zero, zero, zero, zero}}, {Vars: []bounds{zero}}, {Vars: []bounds{some, some, some, some}, Cells: some},
	}
	for _, size := range []int{0, 1, 2, 3, 5, 6, 100} {
		for _, b := range []bounds{zero, some} {
			s := state{On: true, Cells: b}
			for range size {
				s.Vars = append(s.Vars, b)
			}
			out = append(out, s)
		}
	}
	for _, bad := range badBounds() {
		for k := range 4 {
			out = append(out, put(st(zero, some, zero, some, some), k, bad))
		}
		out = append(out, st(zero, some, zero, some, bad))
	}
	return out
}

// otherStates are ok, the one to which nothing comes among them, once with a list that is empty and not nil.
func otherStates() []state {
	zero := itv(0, 0)
	return []state{
		{}, {Vars: []bounds{}}, st(zero, zero, zero, zero, zero), st(itv(-3, 5), zero, itv(1, 1), itv(2, 9), itv(-9, 9)),
		st(impl.ItvAll(), impl.ItvAll(), impl.ItvAll(), impl.ItvAll(), impl.ItvAll()),
	}
}

func TestAbsOk(t *testing.T) {
	for _, s := range append(drawnStates(200), otherStates()...) {
		if !impl.AbsOk(s) {
			t.Errorf("AbsOk(%+v) is false", s)
		}
	}
	for _, s := range badStates() {
		if impl.AbsOk(s) {
			t.Errorf("AbsOk(%+v)", s)
		}
	}
	for _, b := range append(narrowBounds(), wideBounds()...) {
		for k := range 4 {
			if s := put(otherStates()[3], k, b); !impl.AbsOk(s) {
				t.Errorf("AbsOk(%+v) is false", s)
			}
		}
		if s := st(bounds{}, bounds{}, bounds{}, bounds{}, b); !impl.AbsOk(s) {
			t.Errorf("AbsOk(%+v) is false", s)
		}
	}
}

// noPair asks all that is told of two states of which one is not ok.
func noPair(t *testing.T, a, b state) {
	t.Helper()
	if impl.AbsIn(a, b) {
		t.Errorf("AbsIn(%+v, %+v)", a, b)
	}
	if got := impl.AbsJoin(a, b); !sameState(got, state{}) {
		t.Errorf("AbsJoin(%+v, %+v) = %+v", a, b, got)
	}
	if got := impl.AbsWide(a, b); !sameState(got, state{}) {
		t.Errorf("AbsWide(%+v, %+v) = %+v", a, b, got)
	}
}

// On each side, and on both.
func TestStatesThatAreNotOk(t *testing.T) {
	p, all := stateProgram(t)
	for _, bad := range badStates() {
		noPair(t, bad, bad)
		for _, good := range otherStates() {
			noPair(t, bad, good)
			noPair(t, good, bad)
		}
		for _, n := range []int{0, 1, -3, least} {
			for _, size := range []int{3, 4, 5} {
				vars, cells := make([]int, size), make([]int, 4)
				for k := range vars {
					vars[k] = n
				}
				if impl.AbsHas(bad, vars, cells) {
					t.Errorf("AbsHas(%+v, %v, %v)", bad, vars, cells)
				}
			}
		}
		for _, op := range allOps() {
			for _, i := range spread(op, []int{0, 3}, []int{1, 2, 3, 4}, []int{0, 1, 3}, []bounds{itv(-3, 9)}) {
				checkNothing(t, p, all, i, 4, bad)
			}
		}
	}
}

// checkNothing asks that nothing is told of a step in a state.
func checkNothing(t *testing.T, p prog, all []sum, i ins, pc int, s state) {
	t.Helper()
	if impl.AbsFails(p, i, s) {
		t.Fatalf("AbsFails(%+v, %+v, %+v)", p, i, s)
	}
	if got := impl.AbsStep(p, all, i, pc, s); len(got) != 0 {
		t.Fatalf("AbsStep(%+v, %+v, %+v, %d, %+v) = %+v", p, all, i, pc, s, got)
	}
	if got := impl.AbsOut(i, s); got != outOf(i, s) {
		t.Fatalf("AbsOut(%+v, %+v) = %+v", i, s, got)
	}
}

// Where nothing comes, on each side and on both, with a list that is nil and one that is empty.
func TestWhereNothingComes(t *testing.T) {
	p, all := stateProgram(t)
	noughts := []int{0, 0, 0, 0}
	for _, none := range []state{{}, {Vars: []bounds{}}} {
		if !impl.AbsIn(none, none) || !impl.AbsIn(none, state{}) || !sameState(impl.AbsJoin(none, none), state{}) || !sameState(impl.AbsWide(none, none), state{}) {
			t.Error("of nothing and nothing something is told")
		}
		for _, s := range append(drawnStates(50), otherStates()...) {
			if !impl.AbsIn(none, s) || impl.AbsIn(s, none) != !s.On {
				t.Errorf("nothing is within %+v: %v, and the other way round: %v", s, impl.AbsIn(none, s), impl.AbsIn(s, none))
			}
			for _, got := range []state{impl.AbsJoin(none, s), impl.AbsJoin(s, none), impl.AbsWide(none, s), impl.AbsWide(s, none)} {
				if !sameState(got, s) {
					t.Errorf("of nothing and %+v it is told %+v", s, got)
				}
			}
		}
		if impl.AbsHas(none, noughts, noughts) || impl.AbsHas(none, nil, nil) {
			t.Error("numbers are in where nothing comes")
		}
		for _, op := range allOps() {
			for _, i := range spread(op, upTo(4), []int{1, 2, 3, 4}, upTo(4), []bounds{itv(-3, 9)}) {
				checkNothing(t, p, all, i, 4, none)
			}
		}
	}
}

// Grown over nothing a state stays at ends that are no steps; and grown of nothing it takes them.
func TestAbsWideAtEdges(t *testing.T) {
	a := st(itv(3, 5), itv(0, 0), itv(-50, 2000), itv(least, least), itv(7, 7))
	b := st(itv(2, 5), itv(0, 3), itv(-49, 7), itv(least, 0), itv(6, 8))
	for _, c := range []struct{ a, b, want state }{
		{a, b, st(itv(1, 5), itv(0, 10), itv(-50, 2000), itv(least, 0), itv(1, 10))},
		{b, a, st(itv(2, 5), itv(0, 3), itv(-100, greatest), itv(least, 0), itv(6, 8))},
		{a, a, a},
		{a, state{}, a},
		{state{}, a, a},
	} {
		if got := impl.AbsWide(c.a, c.b); !sameState(got, c.want) {
			t.Errorf("AbsWide(%+v, %+v) = %+v, not %+v", c.a, c.b, got, c.want)
		}
	}
	if got, want := impl.AbsJoin(a, b), st(itv(2, 5), itv(0, 3), itv(-50, 2000), itv(least, 0), itv(6, 8)); !sameState(got, want) {
		t.Errorf("AbsJoin(%+v, %+v) = %+v, not %+v", a, b, got, want)
	}
}

// Too few numbers, too many, none, one that is beyond alone, and one that is no number.
func TestAbsHasOfWrongNumbers(t *testing.T) {
	s := st(itv(-3, 5), itv(0, 0), itv(least, greatest), itv(2, 9), itv(-9, 9))
	good := func() ([]int, []int) { return []int{5, 0, least, 2}, []int{-9, 9, 0, 1} }
	vars, cells := good()
	if !impl.AbsHas(s, vars, cells) {
		t.Errorf("AbsHas(%+v, %v, %v) is false", s, vars, cells)
	}
	for _, size := range []int{0, 1, 3, 5, 8} {
		few := make([]int, size)
		copy(few, []int{5, 0, 0, 2, 0})
		if impl.AbsHas(s, few, cells) || impl.AbsHas(s, vars, few) || impl.AbsHas(s, few, few) {
			t.Errorf("%v is in %+v", few, s)
		}
	}
	if impl.AbsHas(s, nil, nil) || impl.AbsHas(s, vars, nil) || impl.AbsHas(s, nil, cells) {
		t.Error("no numbers are in")
	}
	for k := range 4 {
		for _, n := range append(noNumbers(), s.Vars[k].Lo-1, s.Vars[k].Hi+1, s.Cells.Lo-1, s.Cells.Hi+1) {
			vars, cells := good()
			vars[k] = n
			if impl.AbsHas(s, vars, cells) != has(s.Vars[k], n) {
				t.Errorf("with %v AbsHas is %v", vars, impl.AbsHas(s, vars, cells))
			}
			vars, cells = good()
			cells[k] = n
			if impl.AbsHas(s, vars, cells) != has(s.Cells, n) {
				t.Errorf("with cells %v AbsHas is %v", cells, impl.AbsHas(s, vars, cells))
			}
		}
	}
}

func TestAbsEntryOfWrongBounds(t *testing.T) {
	for _, bad := range badBounds() {
		for _, code := range [][]ins{nil, {{Op: impl.OpRet}}} {
			if got := impl.AbsEntry(proc{Lo: bad.Lo, Hi: bad.Hi, Code: code}); !sameState(got, state{}) {
				t.Errorf("AbsEntry of %v is %+v", bad, got)
			}
		}
	}
	// The steps are not looked at, whatever they are.
	want := st(itv(-3, 5), itv(0, 0), itv(0, 0), itv(0, 0), itv(0, 0))
	for _, code := range [][]ins{nil, {}, {{Op: 99}}, {{Op: impl.OpAdd, D: 9}}, make([]ins, 50)} {
		if got := impl.AbsEntry(proc{Lo: -3, Hi: 5, Code: code}); !sameState(got, want) {
			t.Errorf("AbsEntry with the steps %+v is %+v", code, got)
		}
	}
}

// badSums are not ok by a program of so many procedures, each but for one thing.
func badSums(many int) [][]sum {
	full := func(n int) []sum {
		out := make([]sum, n)
		for k := range out {
			out[k] = gives(-k, k)
		}
		return out
	}
	var out [][]sum
	for n := range many + 3 {
		if n != many {
			out = append(out, full(n), make([]sum, n))
		}
	}
	for k := range many {
		for _, bad := range append(badBounds(), itv(1, 1), itv(0, 3), itv(-3, 0)) {
			off := full(many)
			off[k] = sum{Out: bad}
			out = append(out, off)
			if isBad(bad) {
				on := full(many)
				on[k] = sum{On: true, Out: bad}
				out = append(out, on)
			}
		}
	}
	return out
}

func TestSumsOk(t *testing.T) {
	for _, p := range drawnPrograms(40) {
		many := len(p.Procs)
		for mask := range 1 << many {
			all := make([]sum, many)
			for k := range all {
				if mask>>k&1 == 1 {
					all[k] = gives(least+k, greatest-k)
				}
			}
			if !impl.SumsOk(p, all) {
				t.Errorf("SumsOk(%+v, %+v) is false", p, all)
			}
		}
		for _, bad := range badSums(many) {
			if impl.SumsOk(p, bad) {
				t.Errorf("SumsOk(%+v, %+v)", p, bad)
			}
		}
	}
	for _, p := range badPrograms(t) {
		for n := range 6 {
			if impl.SumsOk(p, make([]sum, n)) {
				t.Errorf("SumsOk(%+v) of %d", p, n)
			}
		}
	}
}

// Whatever step it is, though it calls nobody: AbsFails asks for no sums, AbsStep for all.
func TestAbsStepWithWrongSums(t *testing.T) {
	p, _ := stateProgram(t)
	s := st(itv(0, 9), itv(0, 5), itv(1, 1), itv(1, 1), itv(7, 7))
	for _, bad := range badSums(4) {
		for _, line := range []string{"add a b c", "div a a b", "any a 0 3", "load a b", "store c a", "if a < b 0", "jump 3", "call a 1 b", "call a 3 b", "assert a < b", "ret a"} {
			i := lineStep(t, line)
			if got := impl.AbsStep(p, bad, i, 4, s); len(got) != 0 {
				t.Errorf("%s leads to %+v with the sums %+v", line, got, bad)
			}
			if impl.AbsFails(p, i, s) != failsIn(p, i, s) {
				t.Errorf("%s may fail: %v", line, impl.AbsFails(p, i, s))
			}
		}
	}
}

func TestAbsStepByProgramsThatAreNotOk(t *testing.T) {
	s := st(itv(-9, 9), itv(-5, 5), itv(1, 1), itv(1, 1), itv(7, 7))
	for _, p := range badPrograms(t) {
		for n := range 6 {
			all := make([]sum, n)
			for k := range all {
				all[k] = gives(0, 3)
			}
			for _, op := range allOps() {
				for _, i := range spread(op, []int{0, 1}, []int{1, 4}, []int{0, 1}, []bounds{itv(-3, 9)}) {
					checkNothing(t, p, all, i, 4, s)
				}
			}
		}
	}
}

// Each thing that a step has, beyond both ends; and a call of a procedure that there is not, in programs of each size.
func TestAbsStepOfStepsThatAreNotOk(t *testing.T) {
	s := st(itv(-9, 9), itv(-5, 5), itv(1, 1), itv(1, 1), itv(7, 7))
	for many := 1; many <= mostProcs; many++ {
		p := callsBy(make([][]int, many)...)
		all := make([]sum, many)
		for k := range all {
			all[k] = gives(0, 3)
		}
		for _, op := range append(allOps(), noOps()...) {
			vars, rels := []int{math.MinInt, -1, 0, 3, 4, math.MaxInt}, []int{-1, 0, 1, 4, 5}
			tos := []int{math.MinInt, -1, 0, many - 1, many, 9, 10, math.MaxInt}
			for _, i := range spread(op, vars, rels, tos, []bounds{itv(-3, 9), itv(1, 0), itv(least-1, 0)}) {
				checkAbs(t, p, all, i, 4, s)
				// What it does not have is 0, or it is no step.
				bent := i
				bent.Hi++
				checkAbs(t, p, all, bent, 4, s)
			}
		}
		for to := -1; to <= mostProcs; to++ {
			i := ins{Op: impl.OpCall, D: 1, A: 2, To: to}
			if got := impl.AbsStep(p, all, i, 4, put(s, 2, itv(0, 0))); (len(got) == 1) != (to >= 0 && to < many) {
				t.Errorf("among %d procedures a call of %d leads to %+v", many, to, got)
			}
			if got := impl.AbsFails(p, i, put(s, 2, itv(-9, 9))); got != (to >= 0 && to < many) {
				t.Errorf("among %d procedures a call of %d may fail: %v", many, to, got)
			}
		}
	}
}

// AbsOut looks at Op and A of a step alone, whatever else it has.
func TestAbsOutOfWrongSteps(t *testing.T) {
	s := st(itv(-9, 9), itv(-5, 5), itv(1, 1), itv(2, 3), itv(7, 7))
	for _, n := range []int{math.MinInt, -1, 1, 99, math.MaxInt} {
		i := ins{Op: impl.OpRet, D: n, A: 3, B: n, Rel: n, Lo: n, Hi: -n, To: n}
		if got := impl.AbsOut(i, s); got != gives(2, 3) {
			t.Errorf("AbsOut(%+v) = %+v", i, got)
		}
		i.A = n
		if got := impl.AbsOut(i, s); got != outOf(i, s) {
			t.Errorf("AbsOut(%+v) = %+v", i, got)
		}
	}
}

// stateRoom is a state with room behind the end of its list, filled.
func stateRoom(s state) state {
	out := s
	out.Vars = append(make([]bounds, 0, len(s.Vars)+5), s.Vars...)
	for k := len(s.Vars); k < cap(out.Vars); k++ {
		out.Vars[:cap(out.Vars)][k] = itv(71, 72)
	}
	return out
}

// spoil writes into all of a state's list, its room too, full of bounds of its own.
func spoil(s state, n int) {
	list := s.Vars[:cap(s.Vars)]
	for k := range list {
		list[k] = itv(n, n)
	}
}

// checkApart writes over each state of an answer, and looks for what was written when all were.
func checkApart(t *testing.T, states []state) {
	t.Helper()
	for k, s := range states {
		spoil(s, 1000+k)
	}
	for k, s := range states {
		for _, b := range s.Vars[:cap(s.Vars)] {
			if b != itv(1000+k, 1000+k) {
				t.Fatalf("states %d and %d of what was told share memory", k, b.Lo-1000)
			}
		}
	}
}

// wholeStates tells states with all that is behind their lists' ends.
func wholeStates(all ...state) string {
	s := ""
	for _, a := range all {
		s += fmt.Sprintf("%v %v %v;", a.On, a.Vars[:cap(a.Vars)], a.Cells)
	}
	return s
}

func TestStatesShareNoMemory(t *testing.T) {
	states := append(drawnStates(60), badStates()[:20]...)
	for k, given := range states {
		a, b := stateRoom(given), stateRoom(states[(7*k+3)%len(states)])
		was := wholeStates(a, b)
		vars, cells := withRoom([]int{0, 1, 2, 3}), withRoom([]int{3, 2, 1, 0})
		wasInts := fmt.Sprint(vars[:cap(vars)], cells[:cap(cells)])
		impl.AbsOk(a)
		impl.AbsIn(a, b)
		impl.AbsHas(a, vars, cells)
		got := []state{
			impl.AbsJoin(a, b), impl.AbsJoin(b, a), impl.AbsJoin(a, a), impl.AbsJoin(a, state{}), impl.AbsJoin(state{}, a),
			impl.AbsWide(a, b), impl.AbsWide(b, a), impl.AbsWide(a, a), impl.AbsWide(a, state{}), impl.AbsWide(state{}, a),
			impl.AbsEntry(proc{Lo: -3, Hi: 5}), impl.AbsEntry(proc{Lo: -3, Hi: 5}),
		}
		checkApart(t, got)
		if wholeStates(a, b) != was || fmt.Sprint(vars[:cap(vars)], cells[:cap(cells)]) != wasInts {
			t.Fatalf("%s became %s, or %s became %v %v", was, wholeStates(a, b), wasInts, vars[:cap(vars)], cells[:cap(cells)])
		}
	}
}

// The two states of an OpIf too, and those of two calls.
func TestStepsOfStatesShareNoMemory(t *testing.T) {
	given, gave := stateProgram(t)
	p := progRoom(given)
	all := append(make([]sum, 0, 9), gave...)
	for k := len(gave); k < cap(all); k++ {
		all[:cap(all)][k] = gives(71, 72)
	}
	wasProg, wasSums := wholeProg(p), fmt.Sprint(all[:cap(all)])
	twice := 0
	for k, drawn := range append(drawnStates(60), badStates()[:20]...) {
		for _, op := range allOps() {
			for _, i := range spread(op, []int{0, 1}, []int{1, 2, 3, 4}, []int{0, 1, 3}, []bounds{itv(-3, 9)}) {
				s := stateRoom(drawn)
				was := wholeStates(s)
				impl.AbsFails(p, i, s)
				impl.AbsOut(i, s)
				once, again := impl.AbsStep(p, all, i, k%10, s), impl.AbsStep(p, all, i, k%10, s)
				if len(once) == 2 {
					twice++
				}
				checkStepsApart(t, once, again)
				if wholeStates(s) != was || wholeProg(p) != wasProg || fmt.Sprint(all[:cap(all)]) != wasSums {
					t.Fatalf("%s became %s, %s became %s, or %s became %v", was, wholeStates(s), wasProg, wholeProg(p), wasSums, all[:cap(all)])
				}
			}
		}
	}
	if twice == 0 {
		t.Error("no OpIf had both ways open")
	}
}

func checkStepsApart(t *testing.T, once, again []edge) {
	t.Helper()
	var states []state
	for _, e := range append(append([]edge(nil), once...), again...) {
		states = append(states, e.State)
	}
	checkApart(t, states)
	want := append([]edge(nil), again...)
	for k := range once[:cap(once)] {
		once[:cap(once)][k] = edge{To: -9}
	}
	if !reflect.DeepEqual(append([]edge(nil), again...), want) {
		t.Fatalf("two answers share memory: %+v became %+v", want, again)
	}
}
