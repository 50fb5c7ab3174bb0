package tests

import (
	"math/rand"
	"slices"
	"testing"

	"loop.example/outwork/impl"
)

// isAmong says whether numbers at a place are in one of the states that lead there.
func isAmong(edges []edge, pc int, vars, cells []int) bool {
	return slices.ContainsFunc(edges, func(e edge) bool { return e.To == pc && impl.AbsHas(e.State, vars, cells) })
}

// checkFollows lets a run do its next step, which calls and ends nothing, from numbers that are in a state.
func checkFollows(t *testing.T, p prog, all []sum, s state, r run, in int) {
	t.Helper()
	f, i := topOf(p, r)
	if !impl.AbsHas(s, f.Vars, f.Cells) {
		t.Fatalf("%+v is not in %+v", f, s)
	}
	next := impl.RunStep(p, r, in)
	if next.State == fails {
		if !impl.AbsFails(p, i, s) {
			t.Fatalf("%+v fails in %+v, but AbsFails of %+v is false", i, f, s)
		}
		return
	}
	now, _ := topOf(p, next)
	edges := impl.AbsStep(p, all, i, f.Pc, s)
	if !isAmong(edges, now.Pc, now.Vars, now.Cells) {
		t.Fatalf("%+v leads from %+v to %+v, but from %+v to %+v", i, f, now, s, edges)
	}
}

// around are bounds that have a number.
func around(r *rand.Rand, n int) bounds {
	far := []int{0, 0, 0, 1, 2, 3, 50, 2000, 65536}
	return itv(max(least, n-far[r.Intn(len(far))]), min(greatest, n+far[r.Intn(len(far))]))
}

// stateAbout is a state that has the variables and the cells of a call.
func stateAbout(r *rand.Rand, f call) state {
	s := state{On: true, Cells: around(r, f.Cells[0])}
	for k := range 4 {
		s.Vars = append(s.Vars, around(r, f.Vars[k]))
		s.Cells = both(s.Cells, itv(f.Cells[k], f.Cells[k]))
	}
	return s
}

// inside is a call with numbers of a state, drawn among those that are picked.
func inside(r *rand.Rand, s state) (vars, cells [4]int) {
	draw := func(b bounds) int {
		all := pickedOf(b)
		return all[r.Intn(len(all))]
	}
	for k := range 4 {
		vars[k], cells[k] = draw(s.Vars[k]), draw(s.Cells)
	}
	return vars, cells
}

// ownSteps are all steps that call and end nothing, each with each variable, which lead to places below 4.
func ownSteps() []ins {
	var out []ins
	for _, op := range allOps() {
		if op != impl.OpCall && op != impl.OpRet {
			out = append(out, spread(op, upTo(4), []int{1, 2, 3, 4}, upTo(4), []bounds{itv(4, 4), itv(-3, 9), itv(least, greatest)})...)
		}
	}
	return out
}

func TestPromise2WhatAStepDoesToNumbersItDoesToTheirBounds(t *testing.T) {
	r := rand.New(rand.NewSource(2))
	for _, i := range ownSteps() {
		p := alone(i)
		for range 12 {
			s := drawnState(r)
			if !s.On {
				continue
			}
			all := drawnSums(r, p)
			for range 6 {
				vars, cells := inside(r, s)
				checkFollows(t, p, all, s, before(vars, cells), drawnIn(r))
			}
		}
	}
}

// Of numbers that runs come to, and bounds about them.
func TestPromise2OnTheWayOfRuns(t *testing.T) {
	r := rand.New(rand.NewSource(22))
	seen := map[int]int{}
	walks(1500, 40, func(p prog, at run, in int) {
		if at.State != goes {
			return
		}
		f, i := topOf(p, at)
		seen[i.Op]++
		if i.Op != impl.OpCall && i.Op != impl.OpRet {
			checkFollows(t, p, drawnSums(r, p), stateAbout(r, f), at, in)
		}
	})
	for _, op := range allOps() {
		if seen[op] == 0 {
			t.Errorf("no run came to a step of Op %d", op)
		}
	}
}

// caller is a program of which procedure 0 calls one that may be given some numbers, and gives any of some.
func caller(d, a int, given, of bounds) prog {
	ret := ins{Op: impl.OpRet}
	return prog{Procs: []proc{
		{Lo: least, Hi: greatest, Code: []ins{ret, {Op: impl.OpCall, D: d, A: a, To: 1}, ret}},
		{Lo: given.Lo, Hi: given.Hi, Code: []ins{{Op: impl.OpAny, D: 1, Lo: of.Lo, Hi: of.Hi}, {Op: impl.OpRet, A: 1}}},
	}}
}

// checkComesBack lets a run call, be given something, and come back, from numbers that are in a state.
func checkComesBack(t *testing.T, p prog, s state, r run, in int) {
	t.Helper()
	_, i := topOf(p, r)
	of := p.Procs[1].Code[0]
	edges := impl.AbsStep(p, []sum{{}, gives(of.Lo, of.Hi)}, i, 1, s)
	back := impl.RunMany(p, r, []int{in}, 3)
	if back.State == fails {
		if !impl.AbsFails(p, i, s) {
			t.Fatalf("%+v fails in %+v, but AbsFails of %+v is false", i, r, s)
		}
		return
	}
	now, _ := topOf(p, back)
	if len(edges) != 1 || len(back.Frames) != 1 || !isAmong(edges, 2, now.Vars, now.Cells) {
		t.Fatalf("%+v comes back to %+v, but from %+v it leads to %+v", i, now, s, edges)
	}
	if silent := impl.AbsStep(p, []sum{gives(of.Lo, of.Hi), {}}, i, 1, s); len(silent) != 0 {
		t.Fatalf("%+v leads to %+v, though procedure 1 gives nothing", i, silent)
	}
}

func TestPromise46ACallComesBackWithWhatItsProcedureGives(t *testing.T) {
	r := rand.New(rand.NewSource(46))
	pool, back, failed := somePool(), 0, 0
	for k := range 6000 {
		p := caller(k%4, k/4%4, pool[r.Intn(len(pool))], pool[r.Intn(len(pool))])
		s := drawnState(r)
		if !s.On {
			continue
		}
		for range 4 {
			vars, cells := inside(r, s)
			checkComesBack(t, p, s, before(vars, cells), drawnIn(r))
			if mayGive(p, vars[k/4%4]) {
				back++
			} else {
				failed++
			}
		}
	}
	if back < 1000 || failed < 1000 {
		t.Errorf("%d came back, and %d failed", back, failed)
	}
}

func mayGive(p prog, n int) bool {
	return has(itv(p.Procs[1].Lo, p.Procs[1].Hi), n)
}

// atEnds are the ends of two bounds, and 0, as far as they are in the first ones.
func atEnds(b, other bounds) []int {
	all := []int{b.Lo, b.Hi, other.Lo, other.Hi, 0}
	return slices.DeleteFunc(all, func(n int) bool { return !has(b, n) })
}

// failsWith says whether a step fails, by RunStep, with one of the numbers for its A and one for its B.
func failsWith(i ins, s state, as, bs []int) bool {
	p := alone(i)
	for _, a := range as {
		for _, b := range bs {
			var vars, cells [4]int
			for k := range 4 {
				vars[k], cells[k] = s.Vars[k].Lo, s.Cells.Hi
			}
			vars[i.A] = a
			if i.A != i.B || i.Op == impl.OpDiv {
				vars[i.B] = b
			}
			if impl.RunStep(p, before(vars, cells), 0).State == fails {
				return true
			}
		}
	}
	return false
}

func TestPromise47WhatMayFailCan(t *testing.T) {
	r := rand.New(rand.NewSource(47))
	yes, no := map[int]int{}, map[int]int{}
	for _, op := range []int{impl.OpDiv, impl.OpLoad, impl.OpStore, impl.OpCall, impl.OpAssert} {
		for _, i := range spread(op, upTo(4), []int{1, 2, 3, 4}, []int{0, 1}, nil) {
			for range 60 {
				s := drawnState(r)
				if !s.On {
					continue
				}
				a, b := s.Vars[i.A], s.Vars[i.B]
				if !impl.AbsFails(alone(i), i, s) {
					no[op]++
					if failsWith(i, s, pickedOf(a), pickedOf(b)) {
						t.Fatalf("%+v fails with numbers of %+v, but AbsFails is false", i, s)
					}
					continue
				}
				yes[op]++
				oneVariable := i.A == i.B && op == impl.OpAssert
				if !oneVariable && !failsWith(i, s, atEnds(a, b), atEnds(b, a)) {
					t.Fatalf("AbsFails(%+v, %+v), but with no numbers at ends, or 0", i, s)
				}
			}
		}
		if yes[op] == 0 || no[op] == 0 {
			t.Errorf("of Op %d %d may fail, and %d may not", op, yes[op], no[op])
		}
	}
}

// within is a state that is within another one.
func within(r *rand.Rand, s state) state {
	if !s.On || r.Intn(10) == 0 {
		return state{}
	}
	out := copiedState(s)
	less := func(b bounds) bounds {
		all := pickedOf(b)
		x, y := all[r.Intn(len(all))], all[r.Intn(len(all))]
		return []bounds{b, itv(min(x, y), max(x, y)), itv(x, x)}[r.Intn(3)]
	}
	for k := range out.Vars {
		out.Vars[k] = less(out.Vars[k])
	}
	out.Cells = less(out.Cells)
	return out
}

func checkLess(t *testing.T, p prog, all []sum, i ins, pc int, less, more state) {
	t.Helper()
	if !impl.AbsIn(less, more) {
		t.Fatalf("%+v is not within %+v", less, more)
	}
	edges := impl.AbsStep(p, all, i, pc, more)
	for _, e := range impl.AbsStep(p, all, i, pc, less) {
		if !slices.ContainsFunc(edges, func(m edge) bool { return m.To == e.To && impl.AbsIn(e.State, m.State) }) {
			t.Fatalf("%+v leads from %+v to %+v, but from %+v to %+v", i, less, e, more, edges)
		}
	}
	if impl.AbsFails(p, i, less) && !impl.AbsFails(p, i, more) {
		t.Fatalf("%+v may fail in %+v, but not in %+v", i, less, more)
	}
	if out := impl.AbsOut(i, less); out.On && !impl.ItvIn(out.Out, impl.AbsOut(i, more).Out) {
		t.Fatalf("%+v gives %+v of %+v, but %+v of %+v", i, out, less, impl.AbsOut(i, more), more)
	}
}

func TestPromise48OfLessComesLess(t *testing.T) {
	p, all := stateProgram(t)
	r := rand.New(rand.NewSource(48))
	for _, op := range allOps() {
		tos := []int{0, 4, 5, 9}
		if op == impl.OpCall {
			tos = upTo(4)
		}
		for _, i := range spread(op, upTo(4), []int{1, 2, 3, 4}, tos, []bounds{itv(4, 4), itv(-3, 9)}) {
			for range 40 {
				more := drawnState(r)
				checkLess(t, p, all, i, r.Intn(10), within(r, more), more)
			}
		}
	}
}

// fewStates are all ways to have few bounds for a variable and for the cells, and nothing: of so few each is within some others.
func fewStates() []state {
	out := []state{{}}
	zero := itv(0, 0)
	for _, x := range window(-1, 1) {
		for _, y := range window(0, 1) {
			out = append(out, st(zero, x, zero, zero, y))
		}
		out = append(out, st(itv(1, 1), zero, zero, x, zero), st(x, zero, x, zero, zero))
	}
	return out
}

func checkJoined(t *testing.T, a, b state, wholes []state) {
	t.Helper()
	j := impl.AbsJoin(a, b)
	if !impl.AbsOk(j) || !sameState(j, byBounds(a, b, both)) {
		t.Fatalf("AbsJoin(%+v, %+v) = %+v", a, b, j)
	}
	if !sameState(j, impl.AbsJoin(b, a)) || !sameState(impl.AbsJoin(a, a), a) {
		t.Fatalf("AbsJoin(%+v, %+v) = %+v, but the other way round %+v", a, b, j, impl.AbsJoin(b, a))
	}
	if !impl.AbsIn(a, j) || !impl.AbsIn(b, j) {
		t.Fatalf("AbsJoin(%+v, %+v) = %+v has not both", a, b, j)
	}
	for _, c := range wholes {
		if impl.AbsIn(a, c) && impl.AbsIn(b, c) && !impl.AbsIn(j, c) {
			t.Fatalf("%+v has %+v and %+v, but not their join %+v", c, a, b, j)
		}
		if x, y := impl.AbsJoin(j, c), impl.AbsJoin(a, impl.AbsJoin(b, c)); !sameState(x, y) {
			t.Fatalf("by brackets the join of %+v, %+v and %+v is %+v or %+v", a, b, c, x, y)
		}
	}
}

func TestPromise49TheJoinOfStatesIsTheLeastThatHasBoth(t *testing.T) {
	for _, all := range [][]state{fewStates(), drawnStates(40)} {
		for _, a := range all {
			for _, b := range all {
				checkJoined(t, a, b, all)
			}
		}
	}
}

func TestPromise49VariablesAndCellsOfOneOfBothAreInTheJoin(t *testing.T) {
	r := rand.New(rand.NewSource(49))
	for range 4000 {
		a, b := drawnState(r), drawnState(r)
		if !a.On {
			continue
		}
		vars, cells := inside(r, a)
		for _, j := range []state{impl.AbsJoin(a, b), impl.AbsJoin(b, a)} {
			if !impl.AbsHas(j, vars[:], cells[:]) {
				t.Fatalf("%v and %v are in %+v, but not in its join with %+v: %+v", vars, cells, a, b, j)
			}
		}
	}
}

func checkWidened(t *testing.T, a, b state) {
	t.Helper()
	w := impl.AbsWide(a, b)
	if !impl.AbsOk(w) || !sameState(w, byBounds(a, b, grown)) {
		t.Fatalf("AbsWide(%+v, %+v) = %+v", a, b, w)
	}
	if !impl.AbsIn(a, w) || !impl.AbsIn(b, w) {
		t.Fatalf("AbsWide(%+v, %+v) = %+v has not both", a, b, w)
	}
	if again := impl.AbsWide(w, b); !sameState(again, w) {
		t.Fatalf("%+v, grown over %+v, which is in it, is %+v", w, b, again)
	}
	if impl.AbsIn(b, a) && !sameState(w, a) {
		t.Fatalf("%+v, grown over %+v, which is in it, is %+v", a, b, w)
	}
	if !a.On && !sameState(w, b) || !b.On && !sameState(w, a) {
		t.Fatalf("AbsWide(%+v, %+v) = %+v, where nothing comes to one", a, b, w)
	}
}

func TestPromise50WhatGrowsHasBoth(t *testing.T) {
	for _, all := range [][]state{fewStates(), drawnStates(150)} {
		for _, a := range all {
			for _, b := range all {
				checkWidened(t, a, b)
			}
		}
	}
	r := rand.New(rand.NewSource(50))
	for range 3000 {
		a := drawnState(r)
		checkWidened(t, a, within(r, a))
		checkWidened(t, within(r, a), a)
	}
}

func TestPromise51WhatIsInAStateIsInWhatHasThat(t *testing.T) {
	r := rand.New(rand.NewSource(51))
	for range 4000 {
		more := drawnState(r)
		less := within(r, more)
		if !less.On {
			continue
		}
		vars, cells := inside(r, less)
		for _, s := range []state{less, more, impl.AbsJoin(less, drawnState(r)), impl.AbsWide(less, drawnState(r))} {
			if !impl.AbsHas(s, vars[:], cells[:]) {
				t.Fatalf("%v and %v are in %+v, but not in %+v", vars, cells, less, s)
			}
		}
	}
}

// Of few states each two are held against each other, with all numbers of a variable and of a cell.
func TestPromise51OfFewStates(t *testing.T) {
	for _, a := range fewStates() {
		for _, b := range fewStates() {
			if impl.AbsIn(a, b) != isWithin(a, b) {
				t.Fatalf("AbsIn(%+v, %+v) = %v", a, b, impl.AbsIn(a, b))
			}
			more := false
			for n := -2; n <= 2; n++ {
				for m := -1; m <= 2; m++ {
					for k := range 4 {
						vars, cells := []int{0, 0, 0, 0}, []int{0, 0, 0, 0}
						vars[k], cells[k] = n, m
						more = more || impl.AbsHas(a, vars, cells) && !impl.AbsHas(b, vars, cells)
					}
				}
			}
			if more && impl.AbsIn(a, b) {
				t.Fatalf("%+v has more than %+v, and is within it", a, b)
			}
		}
	}
}

func TestPromise52WhatComesToABeginningIsWhatMayBeGiven(t *testing.T) {
	noughts := []int{0, 0, 0, 0}
	for _, b := range append(narrowBounds(), wideBounds()...) {
		s := impl.AbsEntry(proc{Lo: b.Lo, Hi: b.Hi})
		if want := st(b, bounds{}, bounds{}, bounds{}, bounds{}); !sameState(s, want) {
			t.Fatalf("AbsEntry of %v is %+v", b, s)
		}
		for _, n := range append(pickedOf(b), b.Lo-1, b.Hi+1, least, greatest, 0, 1) {
			if got := impl.AbsHas(s, []int{n, 0, 0, 0}, noughts); got != has(b, n) {
				t.Fatalf("%d is in AbsEntry of %v: %v", n, b, got)
			}
			for k := 1; k < 4; k++ {
				vars := []int{n, 0, 0, 0}
				vars[k] = 1
				if impl.AbsHas(s, vars, noughts) {
					t.Fatalf("%v is in AbsEntry of %v", vars, b)
				}
			}
			if impl.AbsHas(s, []int{n, 0, 0, 0}, []int{0, 0, 0, -1}) {
				t.Fatalf("a cell that is not 0 is in AbsEntry of %v", b)
			}
		}
	}
}

// What a run begins with is there, whatever procedure it is.
func TestPromise52OfRunsThatBegin(t *testing.T) {
	for _, p := range drawnPrograms(300) {
		for k, c := range p.Procs {
			s := impl.AbsEntry(c)
			for _, n := range []int{least, c.Lo - 1, c.Lo, 0, c.Hi, c.Hi + 1, greatest} {
				r := impl.RunNew(p, k, n)
				vars, cells := []int{n, 0, 0, 0}, []int{0, 0, 0, 0}
				if impl.AbsHas(s, vars, cells) != (r.State == goes) {
					t.Fatalf("of %d: RunNew is %+v, and AbsEntry %+v", n, r, s)
				}
				if r.State == goes && !impl.AbsHas(s, r.Frames[0].Vars, r.Frames[0].Cells) {
					t.Fatalf("a run begins with %+v, which is not in %+v", r, s)
				}
			}
		}
	}
}

func TestPromise53WhatEndsACallGivesWhatItsVariableMayBe(t *testing.T) {
	for _, s := range append(drawnStates(60), badStates()...) {
		for _, op := range append(allOps(), noOps()...) {
			for _, v := range []int{-1, 0, 1, 2, 3, 4} {
				i := ins{Op: op, A: v}
				got := impl.AbsOut(i, s)
				want := sum{}
				if op == 12 && v >= 0 && v <= 3 && isState(s) && s.On {
					want = gives(s.Vars[v].Lo, s.Vars[v].Hi)
				}
				if got != want {
					t.Fatalf("AbsOut(%+v, %+v) = %+v, not %+v", i, s, got, want)
				}
			}
		}
	}
}

// What a run gives is in what its last step gives.
func TestPromise53OfRunsThatEnd(t *testing.T) {
	r := rand.New(rand.NewSource(53))
	for k := range 2000 {
		i := ins{Op: impl.OpRet, A: k % 4}
		s := drawnState(r)
		if !s.On {
			continue
		}
		vars, cells := inside(r, s)
		got := impl.RunStep(alone(i), before(vars, cells), 0)
		if out := impl.AbsOut(i, s); got.State != done || !out.On || !has(out.Out, got.Out) {
			t.Fatalf("a run gave %+v, but AbsOut of %+v is %+v", got, s, out)
		}
	}
}
