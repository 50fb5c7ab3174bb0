package tests

import (
	"slices"
	"testing"

	"loop.example/outwork/impl"
)

// someOfFour is how many programs of four procedures are passed over for each that a promise is asked of.
const someOfFour = 13

func rises(list []int) bool {
	for k := 1; k < len(list); k++ {
		if list[k-1] >= list[k] {
			return false
		}
	}
	return true
}

// hasCall says whether a step of one procedure calls another one.
func hasCall(p prog, from, to int) bool {
	for _, i := range p.Procs[from].Code {
		if i.Op == impl.OpCall && i.To == to {
			return true
		}
	}
	return false
}

func TestPromise39AProcedureCallsWhatItsStepsCall(t *testing.T) {
	eachGraph(someOfFour, func(p prog) {
		for k := range p.Procs {
			calls := impl.GrfCalls(p, k)
			if !rises(calls) {
				t.Fatalf("GrfCalls(%+v, %d) = %v", p, k, calls)
			}
			for to := -1; to <= mostProcs; to++ {
				if slices.Contains(calls, to) != hasCall(p, k, to) {
					t.Fatalf("GrfCalls(%+v, %d) = %v, and %d?", p, k, calls, to)
				}
			}
		}
	})
}

func TestPromise40WhatCanBeComeToIsWhatIsCalledAndOn(t *testing.T) {
	eachGraph(someOfFour, func(p prog) {
		for k := range p.Procs {
			reach := impl.GrfReach(p, k)
			if !rises(reach) || !slices.Contains(reach, k) {
				t.Fatalf("GrfReach(%+v, %d) = %v", p, k, reach)
			}
			for to := -1; to <= mostProcs; to++ {
				calls := func(from int) bool { return hasCall(p, from, to) }
				if to != k && slices.Contains(reach, to) != slices.ContainsFunc(reach, calls) {
					t.Fatalf("GrfReach(%+v, %d) = %v, and %d?", p, k, reach, to)
				}
			}
		}
	})
}

// The promise alone would leave room for some that call just each other.
func TestWhatIsComeToIsComeToInSoManyCalls(t *testing.T) {
	eachGraph(someOfFour, func(p prog) {
		for k := range p.Procs {
			met := []int{k}
			for range p.Procs {
				for to := range p.Procs {
					calls := func(from int) bool { return hasCall(p, from, to) }
					if !slices.Contains(met, to) && slices.ContainsFunc(met, calls) {
						met = append(met, to)
					}
				}
			}
			slices.Sort(met)
			if got := impl.GrfReach(p, k); !sameInts(got, met) {
				t.Fatalf("GrfReach(%+v, %d) = %v, not %v", p, k, got, met)
			}
		}
	})
}

func TestPromise41WhoIsInOnePartIsSoBothWays(t *testing.T) {
	eachGraph(someOfFour, func(p prog) {
		w := told(p)
		for a := range p.Procs {
			if !rises(w.part[a]) || !slices.Contains(w.part[a], a) {
				t.Fatalf("GrfPart(%+v, %d) = %v", p, a, w.part[a])
			}
			for b := range p.Procs {
				both := slices.Contains(w.reach[a], b) && slices.Contains(w.reach[b], a)
				if slices.Contains(w.part[a], b) != both || both && !sameInts(w.part[a], w.part[b]) {
					t.Fatalf("of %+v %d is in %v, and %d in %v", p, a, w.part[a], b, w.part[b])
				}
			}
		}
	})
}

func TestPromise42EachProcedureThatCanBeComeToIsInOnePart(t *testing.T) {
	eachGraph(someOfFour, func(p prog) {
		w := told(p)
		var firsts, members []int
		for _, part := range w.parts {
			if len(part) == 0 || !sameInts(part, w.part[part[0]]) {
				t.Fatalf("GrfParts(%+v) = %v, and one is not %v", p, w.parts, w.part)
			}
			firsts = append(firsts, part[0])
			members = append(members, part...)
		}
		slices.Sort(members)
		if !rises(firsts) || !sameInts(members, w.reach[0]) {
			t.Fatalf("GrfParts(%+v) = %v, where %v can be come to", p, w.parts, w.reach[0])
		}
	})
}

// neededOn are all parts that one needs, and on; it is one of them just if one of them needs it.
func neededOn(w lists, k int) []int {
	var out []int
	ahead := slices.Clone(w.needs[k])
	for len(ahead) > 0 {
		n := ahead[0]
		ahead = ahead[1:]
		if !slices.Contains(out, n) {
			out = append(out, n)
			ahead = append(ahead, w.needs[n]...)
		}
	}
	return out
}

func TestPromise43WhatAPartNeedsNeverNeedsIt(t *testing.T) {
	eachGraph(someOfFour, func(p prog) {
		w := told(p)
		for k, part := range w.parts {
			if !rises(w.needs[k]) || slices.Contains(neededOn(w, k), k) {
				t.Fatalf("GrfNeeds(%+v, %d) = %v, of %v", p, k, w.needs[k], w.needs)
			}
			for n, other := range w.parts {
				calls := func(from int) bool {
					return slices.ContainsFunc(other, func(to int) bool { return hasCall(p, from, to) })
				}
				if n != k && slices.Contains(w.needs[k], n) != slices.ContainsFunc(part, calls) {
					t.Fatalf("GrfNeeds(%+v, %d) = %v, and %d?", p, k, w.needs[k], n)
				}
			}
		}
	})
}

func TestPromise44EachPartStandsBehindAllThatItNeeds(t *testing.T) {
	eachGraph(someOfFour, func(p prog) {
		w := told(p)
		each := slices.Sorted(slices.Values(w.order))
		if !sameInts(each, upTo(len(w.parts))) {
			t.Fatalf("GrfOrder(%+v) = %v, of %d parts", p, w.order, len(w.parts))
		}
		for at, k := range w.order {
			for _, n := range neededOn(w, k) {
				if !slices.Contains(w.order[:at], n) {
					t.Fatalf("GrfOrder(%+v) = %v, where %d needs %d", p, w.order, k, n)
				}
			}
		}
	})
}

// Again and again the first part that is ready is next, and no other one.
func TestTheOrderIsWhatIsReadyFirst(t *testing.T) {
	eachGraph(someOfFour, func(p prog) {
		done := make([]bool, len(impl.GrfParts(p)))
		order := impl.GrfOrder(p)
		for _, k := range order {
			ready := impl.GrfReady(p, done)
			if len(ready) == 0 || ready[0] != k {
				t.Fatalf("GrfOrder(%+v) = %v, where with %v %v are ready", p, order, done, ready)
			}
			done[k] = true
		}
		if slices.Contains(done, false) || len(impl.GrfReady(p, done)) != 0 {
			t.Fatalf("behind %v of %+v %v are done, and %v are ready", order, p, done, impl.GrfReady(p, done))
		}
	})
}

// needsDone says whether all that a part needs is done.
func needsDone(w lists, k int, done []bool) bool {
	return !slices.ContainsFunc(w.needs[k], func(n int) bool { return !done[n] })
}

func TestPromise45ThereIsAlwaysSomethingReady(t *testing.T) {
	eachGraph(someOfFour, func(p prog) {
		w := told(p)
		for _, done := range allDones(len(w.parts)) {
			ready := impl.GrfReady(p, done)
			closed := true
			for k := range w.parts {
				may := needsDone(w, k, done)
				closed = closed && (may || !done[k])
				if slices.Contains(ready, k) != (may && !done[k]) {
					t.Fatalf("GrfReady(%+v, %v) = %v, and %d?", p, done, ready, k)
				}
			}
			if !rises(ready) || closed && slices.Contains(done, false) && len(ready) == 0 {
				t.Fatalf("GrfReady(%+v, %v) = %v", p, done, ready)
			}
		}
	})
}
