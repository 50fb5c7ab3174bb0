package tests

import (
	"math/rand"
	"reflect"
	"slices"
	"testing"

	"loop.example/outwork/impl"
)

// lists are all that chapter 6 tells of a program, but for what is ready: by procedures what each calls, what can be come to from it, and its part; all parts; by parts what each needs; and the order.
type lists struct {
	calls, reach, part, parts, needs [][]int
	order                            []int
}

// callsIn are the procedures that one calls, found by asking for each whether a step does.
func callsIn(p prog, k int) []int {
	var out []int
	for to := range p.Procs {
		if slices.ContainsFunc(p.Procs[k].Code, func(i ins) bool { return i.Op == impl.OpCall && i.To == to }) {
			out = append(out, to)
		}
	}
	return out
}

// comesTo says of each two procedures whether the second one can be come to from the first one.
func comesTo(p prog) [][]bool {
	many := len(p.Procs)
	can := make([][]bool, many)
	for a := range many {
		can[a] = make([]bool, many)
		can[a][a] = true
		for _, b := range callsIn(p, a) {
			can[a][b] = true
		}
	}
	for by := range many {
		for a := range many {
			for b := range many {
				can[a][b] = can[a][b] || can[a][by] && can[by][b]
			}
		}
	}
	return can
}

// listsOf is what chapter 6 should tell of a program that is ok.
func listsOf(p prog) lists {
	can := comesTo(p)
	w := lists{}
	for a := range p.Procs {
		var reach, part []int
		for b := range p.Procs {
			if can[a][b] {
				reach = append(reach, b)
			}
			if can[a][b] && can[b][a] {
				part = append(part, b)
			}
		}
		w.calls = append(w.calls, callsIn(p, a))
		w.reach = append(w.reach, reach)
		w.part = append(w.part, part)
		if can[0][a] && part[0] == a {
			w.parts = append(w.parts, part)
		}
	}
	for k := range w.parts {
		w.needs = append(w.needs, w.needsOf(k))
	}
	w.order = w.orderOf()
	return w
}

func (w lists) needsOf(k int) []int {
	var out []int
	for n, other := range w.parts {
		calls := func(a int) bool {
			return slices.ContainsFunc(other, func(b int) bool { return slices.Contains(w.calls[a], b) })
		}
		if n != k && slices.ContainsFunc(w.parts[k], calls) {
			out = append(out, n)
		}
	}
	return out
}

// ready are the parts that are, if there are as many in done.
func (w lists) ready(done []bool) []int {
	var out []int
	for k := range w.parts {
		open := func(n int) bool { return !done[n] }
		if !done[k] && !slices.ContainsFunc(w.needs[k], open) {
			out = append(out, k)
		}
	}
	return out
}

func (w lists) orderOf() []int {
	var out []int
	done := make([]bool, len(w.parts))
	for slices.Contains(done, false) {
		next := w.ready(done)[0]
		done[next] = true
		out = append(out, next)
	}
	return out
}

// told is what the program tells of one that is ok.
func told(p prog) lists {
	w := lists{parts: impl.GrfParts(p), order: impl.GrfOrder(p)}
	for k := range p.Procs {
		w.calls = append(w.calls, impl.GrfCalls(p, k))
		w.reach = append(w.reach, impl.GrfReach(p, k))
		w.part = append(w.part, impl.GrfPart(p, k))
	}
	for k := range w.parts {
		w.needs = append(w.needs, impl.GrfNeeds(p, k))
	}
	return w
}

func sameLists(a, b [][]int) bool {
	return slices.EqualFunc(a, b, sameInts)
}

func sameAll(a, b lists) bool {
	return sameLists(a.calls, b.calls) && sameLists(a.reach, b.reach) && sameLists(a.part, b.part) &&
		sameLists(a.parts, b.parts) && sameLists(a.needs, b.needs) && sameInts(a.order, b.order)
}

// allDones are all ways in which some of so many are done.
func allDones(many int) [][]bool {
	var out [][]bool
	for mask := range 1 << many {
		done := make([]bool, many)
		for k := range done {
			done[k] = mask>>k&1 == 1
		}
		out = append(out, done)
	}
	return out
}

// checkGraph asks everything of a program that is ok.
func checkGraph(t *testing.T, p prog) {
	t.Helper()
	want := listsOf(p)
	if got := told(p); !sameAll(got, want) {
		t.Fatalf("of %+v it is told %+v, not %+v", p, got, want)
	}
	for _, done := range allDones(len(want.parts)) {
		if got := impl.GrfReady(p, done); !sameInts(got, want.ready(done)) {
			t.Fatalf("GrfReady(%+v, %v) = %v, not %v", p, done, got, want.ready(done))
		}
	}
}

// callsBy is a program of which each procedure calls those of its list, in its order, and ends.
func callsBy(calls ...[]int) prog {
	p := prog{}
	for k, list := range calls {
		c := proc{Lo: -k, Hi: k}
		for _, to := range list {
			c.Code = append(c.Code, ins{Op: impl.OpCall, D: (to + 1) % 4, A: (to + 2) % 4, To: to})
		}
		p.Procs = append(p.Procs, proc{Lo: c.Lo, Hi: c.Hi, Code: append(c.Code, ins{Op: impl.OpRet, A: k % 4})})
	}
	return p
}

// byMask is a program of so many procedures, of which each bit says whether one calls another one, or itself.
func byMask(many, mask int) prog {
	calls := make([][]int, many)
	for bit := range many * many {
		if mask>>bit&1 == 1 {
			calls[bit/many] = append(calls[bit/many], bit%many)
		}
	}
	return callsBy(calls...)
}

// eachGraph sees a program for each way in which up to three procedures call each other, and for each so many-th one of four; beside them drawn ones, with steps of all kinds.
func eachGraph(every int, see func(p prog)) {
	for many := 1; many <= mostProcs; many++ {
		by := 1
		if many == mostProcs {
			by = every
		}
		for mask := 0; mask < 1<<(many*many); mask += by {
			see(byMask(many, mask))
		}
	}
	r := rand.New(rand.NewSource(6))
	for k := range 2000 {
		see(drawn(r, 1+k%mostProcs, mostSteps))
		see(lively(r, 1+k%mostProcs))
	}
}

// Whatever calls whatever.
func TestEachGraph(t *testing.T) {
	seen := map[int]int{}
	eachGraph(1, func(p prog) {
		checkGraph(t, p)
		seen[len(listsOf(p).parts)]++
	})
	for many := 1; many <= mostProcs; many++ {
		if seen[many] == 0 {
			t.Errorf("no program was seen that has %d parts", many)
		}
	}
}

// A call may stand at each place but the last one, alone, and beside others, whatever is ahead of it.
func TestACallAtEachPlace(t *testing.T) {
	for size := 2; size <= mostSteps; size++ {
		for pc := range size - 1 {
			for to := range mostProcs {
				p := program(size, 1, 2, 3)
				p.Procs[0].Code[pc] = ins{Op: impl.OpCall, D: 3, A: 2, To: to}
				checkGraph(t, p)
				if got := impl.GrfCalls(p, 0); !reflect.DeepEqual(got, []int{to}) {
					t.Fatalf("with a call of %d at %d GrfCalls is %v", to, pc, got)
				}
				if pc > 0 {
					p.Procs[0].Code[0] = ins{Op: impl.OpRet}
					p.Procs[0].Code[pc-1] = ins{Op: impl.OpCall, To: mostProcs - 1}
					checkGraph(t, p)
				}
			}
		}
	}
}
