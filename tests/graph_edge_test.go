package tests

import (
	"fmt"
	"math"
	"reflect"
	"slices"
	"testing"

	"loop.example/outwork/impl"
)

type graphCase struct {
	name string
	p    prog
	want lists
}

func checkGraphCases(t *testing.T, cases []graphCase) {
	t.Helper()
	for _, c := range cases {
		if got := told(c.p); !sameAll(got, c.want) {
			t.Errorf("%s: it is told %+v, not %+v", c.name, got, c.want)
		}
		checkGraph(t, c.p)
	}
}

type ints = [][]int

func TestFewProcedures(t *testing.T) {
	nobody, itself := ints{nil}, ints{{0}}
	checkGraphCases(t, []graphCase{
		{"one that calls nobody", callsBy(nil), lists{nobody, itself, itself, itself, nobody, []int{0}}},
		{"one that calls itself", callsBy([]int{0}), lists{itself, itself, itself, itself, nobody, []int{0}}},
		{"one that calls itself twice", callsBy([]int{0, 0}), lists{itself, itself, itself, itself, nobody, []int{0}}},
		{"one calls the other one", callsBy([]int{1}, nil), lists{ints{{1}, nil}, ints{{0, 1}, {1}}, ints{{0}, {1}}, ints{{0}, {1}}, ints{{1}, nil}, []int{1, 0}}},
		{"and that calls itself", callsBy([]int{1}, []int{1}), lists{ints{{1}, {1}}, ints{{0, 1}, {1}}, ints{{0}, {1}}, ints{{0}, {1}}, ints{{1}, nil}, []int{1, 0}}},
		{"the other one calls it", callsBy(nil, []int{0}), lists{ints{nil, {0}}, ints{{0}, {0, 1}}, ints{{0}, {1}}, itself, nobody, []int{0}}},
		{"nobody calls", callsBy(nil, nil, nil, nil), lists{ints{nil, nil, nil, nil}, ints{{0}, {1}, {2}, {3}}, ints{{0}, {1}, {2}, {3}}, itself, nobody, []int{0}}},
		{"each calls itself", callsBy([]int{0}, []int{1}, []int{2}), lists{ints{{0}, {1}, {2}}, ints{{0}, {1}, {2}}, ints{{0}, {1}, {2}}, itself, nobody, []int{0}}},
	})
}

func TestRings(t *testing.T) {
	two, three, four := []int{0, 1}, []int{0, 1, 2}, []int{0, 1, 2, 3}
	nobody, first := ints{nil}, []int{0}
	checkGraphCases(t, []graphCase{
		{"two", callsBy([]int{1}, []int{0}), lists{ints{{1}, {0}}, ints{two, two}, ints{two, two}, ints{two}, nobody, first}},
		{"two that call themselves too", callsBy(two, two), lists{ints{two, two}, ints{two, two}, ints{two, two}, ints{two}, nobody, first}},
		{"three", callsBy([]int{1}, []int{2}, []int{0}), lists{ints{{1}, {2}, {0}}, ints{three, three, three}, ints{three, three, three}, ints{three}, nobody, first}},
		{"three, the other way round", callsBy([]int{2}, []int{0}, []int{1}), lists{ints{{2}, {0}, {1}}, ints{three, three, three}, ints{three, three, three}, ints{three}, nobody, first}},
		{"four", callsBy([]int{2}, []int{0}, []int{3}, []int{1}), lists{ints{{2}, {0}, {3}, {1}}, ints{four, four, four, four}, ints{four, four, four, four}, ints{four}, nobody, first}},
		{"each of four calls each", callsBy(four, four, four, four), lists{ints{four, four, four, four}, ints{four, four, four, four}, ints{four, four, four, four}, ints{four}, nobody, first}},
		{"two rings that meet in one", callsBy([]int{1, 2}, []int{0}, []int{0}), lists{ints{{1, 2}, {0}, {0}}, ints{three, three, three}, ints{three, three, three}, ints{three}, nobody, first}},
		{"a ring in a ring", callsBy([]int{1}, []int{2}, []int{1, 3}, []int{0}), lists{ints{{1}, {2}, {1, 3}, {0}}, ints{four, four, four, four}, ints{four, four, four, four}, ints{four}, nobody, first}},
		{"a ring calls a ring", callsBy([]int{1, 2}, []int{0}, []int{3}, []int{2}),
			lists{ints{{1, 2}, {0}, {3}, {2}}, ints{four, four, {2, 3}, {2, 3}}, ints{two, two, {2, 3}, {2, 3}}, ints{two, {2, 3}}, ints{{1}, nil}, []int{1, 0}}},
		{"rings whose members lie between each other's", callsBy([]int{2}, []int{3}, []int{0, 3}, []int{1}),
			lists{ints{{2}, {3}, {0, 3}, {1}}, ints{four, {1, 3}, four, {1, 3}}, ints{{0, 2}, {1, 3}, {0, 2}, {1, 3}}, ints{{0, 2}, {1, 3}}, ints{{1}, nil}, []int{1, 0}}},
	})
}

func TestWhoCannotBeComeTo(t *testing.T) {
	itself, nobody, first := ints{{0}}, ints{nil}, []int{0}
	checkGraphCases(t, []graphCase{
		{"alone", callsBy([]int{2}, nil, nil), lists{ints{{2}, nil, nil}, ints{{0, 2}, {1}, {2}}, ints{{0}, {1}, {2}}, ints{{0}, {2}}, ints{{1}, nil}, []int{1, 0}}},
		{"a ring of their own", callsBy(nil, []int{2}, []int{1}), lists{ints{nil, {2}, {1}}, ints{{0}, {1, 2}, {1, 2}}, ints{{0}, {1, 2}, {1, 2}}, itself, nobody, first}},
		{"one that calls itself", callsBy(nil, []int{1}), lists{ints{nil, {1}}, ints{{0}, {1}}, ints{{0}, {1}}, itself, nobody, first}},
		{"one that calls what can be come to", callsBy([]int{2}, []int{2, 0}, nil),
			lists{ints{{2}, {0, 2}, nil}, ints{{0, 2}, {0, 1, 2}, {2}}, ints{{0}, {1}, {2}}, ints{{0}, {2}}, ints{{1}, nil}, []int{1, 0}}},
		{"a ring that calls a ring that can be come to", callsBy([]int{1}, []int{0}, []int{3}, []int{2, 1}),
			lists{ints{{1}, {0}, {3}, {1, 2}}, ints{{0, 1}, {0, 1}, {0, 1, 2, 3}, {0, 1, 2, 3}}, ints{{0, 1}, {0, 1}, {2, 3}, {2, 3}}, ints{{0, 1}}, nobody, first}},
		{"all but the first, one by one", callsBy(nil, []int{0}, []int{1}, []int{2}),
			lists{ints{nil, {0}, {1}, {2}}, ints{{0}, {0, 1}, {0, 1, 2}, {0, 1, 2, 3}}, ints{{0}, {1}, {2}, {3}}, itself, nobody, first}},
	})
}

func TestPartsAndWhatTheyNeed(t *testing.T) {
	chained := lists{ints{{1}, {2}, {3}, nil}, ints{{0, 1, 2, 3}, {1, 2, 3}, {2, 3}, {3}}, ints{{0}, {1}, {2}, {3}}, ints{{0}, {1}, {2}, {3}}, ints{{1}, {2}, {3}, nil}, []int{3, 2, 1, 0}}
	checkGraphCases(t, []graphCase{
		{"called by several steps", callsBy([]int{1, 1, 0, 1, 1}, nil), lists{ints{{0, 1}, nil}, ints{{0, 1}, {1}}, ints{{0}, {1}}, ints{{0}, {1}}, ints{{1}, nil}, []int{1, 0}}},
		{"calls in falling order", callsBy([]int{3, 2, 1, 0}, nil, nil, nil),
			lists{ints{{0, 1, 2, 3}, nil, nil, nil}, ints{{0, 1, 2, 3}, {1}, {2}, {3}}, ints{{0}, {1}, {2}, {3}}, ints{{0}, {1}, {2}, {3}}, ints{{1, 2, 3}, nil, nil, nil}, []int{1, 2, 3, 0}}},
		{"one calls the next one", callsBy([]int{1}, []int{2}, []int{3}, nil), chained},
		{"come to by its last member", callsBy([]int{3}, []int{3}, nil, []int{1}),
			lists{ints{{3}, {3}, nil, {1}}, ints{{0, 1, 3}, {1, 3}, {2}, {1, 3}}, ints{{0}, {1, 3}, {2}, {1, 3}}, ints{{0}, {1, 3}}, ints{{1}, nil}, []int{1, 0}}},
		{"come to by the member in the midst", callsBy([]int{2}, []int{3}, []int{1}, []int{2}),
			lists{ints{{2}, {3}, {1}, {2}}, ints{{0, 1, 2, 3}, {1, 2, 3}, {1, 2, 3}, {1, 2, 3}}, ints{{0}, {1, 2, 3}, {1, 2, 3}, {1, 2, 3}}, ints{{0}, {1, 2, 3}}, ints{{1}, nil}, []int{1, 0}}},
		{"needs two others", callsBy([]int{2, 1}, nil, nil), lists{ints{{1, 2}, nil, nil}, ints{{0, 1, 2}, {1}, {2}}, ints{{0}, {1}, {2}}, ints{{0}, {1}, {2}}, ints{{1, 2}, nil, nil}, []int{1, 2, 0}}},
		{"two need the same one", callsBy([]int{1, 2}, []int{3}, []int{3}, nil),
			lists{ints{{1, 2}, {3}, {3}, nil}, ints{{0, 1, 2, 3}, {1, 3}, {2, 3}, {3}}, ints{{0}, {1}, {2}, {3}}, ints{{0}, {1}, {2}, {3}}, ints{{1, 2}, {3}, {3}, nil}, []int{3, 1, 2, 0}}},
		{"needs one by two members, and what that needs", callsBy([]int{1, 2}, []int{0, 2, 3}, []int{3}, nil),
			lists{ints{{1, 2}, {0, 2, 3}, {3}, nil}, ints{{0, 1, 2, 3}, {0, 1, 2, 3}, {2, 3}, {3}}, ints{{0, 1}, {0, 1}, {2}, {3}}, ints{{0, 1}, {2}, {3}}, ints{{1, 2}, {2}, nil}, []int{2, 1, 0}}},
		{"parts are numbered, not procedures", callsBy([]int{3}, nil, nil, nil), lists{ints{{3}, nil, nil, nil}, ints{{0, 3}, {1}, {2}, {3}}, ints{{0}, {1}, {2}, {3}}, ints{{0}, {3}}, ints{{1}, nil}, []int{1, 0}}},
		{"one later is needed by one ahead, and the other way round", callsBy([]int{1, 3}, nil, []int{1}, []int{2}),
			lists{ints{{1, 3}, nil, {1}, {2}}, ints{{0, 1, 2, 3}, {1}, {1, 2}, {1, 2, 3}}, ints{{0}, {1}, {2}, {3}}, ints{{0}, {1}, {2}, {3}}, ints{{1, 3}, nil, {1}, {2}}, []int{1, 2, 3, 0}}},
	})
}

// Only OpCall calls, whatever numbers other steps have, and whether a call comes to the step or not.
func TestWhatIsACall(t *testing.T) {
	p := read(t, "procs 4",
		"proc 0 9 size 9", "if a < b 2", "jump 3", "add b c d", "store c d", "set b 3", "any c 1 3", "load d c", "assert b != c", "ret d",
		"proc 0 9 size 4", "ret c", "call a 2 b", "jump 0", "ret d",
		"proc 0 9 size 4", "jump 3", "call d 3 c", "call d 1 c", "jump 2",
		"proc 0 9 size 1", "jump 0")
	for k, want := range [][]int{nil, {2}, {1, 3}, nil} {
		if got := impl.GrfCalls(p, k); !sameInts(got, want) {
			t.Errorf("GrfCalls of %d is %v, not %v", k, got, want)
		}
	}
	checkGraph(t, p)
}

// Whatever the first of their members is called by: of a part each member tells the same.
func TestGrfPartOfWhoCannotBeComeTo(t *testing.T) {
	p := callsBy(nil, []int{3, 0}, []int{3, 1}, []int{1})
	for k, want := range [][]int{{0}, {1, 3}, {2}, {1, 3}} {
		if got := impl.GrfPart(p, k); !sameInts(got, want) {
			t.Errorf("GrfPart of %d is %v, not %v", k, got, want)
		}
	}
}

type readyCase struct {
	done []bool
	want []int
}

func checkReadyCases(t *testing.T, p prog, cases []readyCase) {
	t.Helper()
	for _, c := range cases {
		if got := impl.GrfReady(p, c.done); !sameInts(got, c.want) {
			t.Errorf("GrfReady(%+v, %v) = %v, not %v", p, c.done, got, c.want)
		}
	}
}

func TestGrfReadyAtEdges(t *testing.T) {
	const T, F = true, false
	one := []readyCase{{[]bool{F}, []int{0}}, {[]bool{T}, nil}, {nil, nil}, {[]bool{}, nil}, {[]bool{F, F}, nil}}
	checkReadyCases(t, callsBy(nil), one)
	checkReadyCases(t, callsBy([]int{0}), one)
	checkReadyCases(t, callsBy([]int{1}, []int{2}, []int{0}), one)
	checkReadyCases(t, callsBy(nil, []int{0}, []int{2}), one)
	// 0 needs 1 and 2, and both need 3.
	checkReadyCases(t, callsBy([]int{2, 1}, []int{3}, []int{3}, nil), []readyCase{
		{[]bool{F, F, F, F}, []int{3}},
		{[]bool{F, F, F, T}, []int{1, 2}},
		{[]bool{F, T, F, T}, []int{2}},
		{[]bool{F, F, T, T}, []int{1}},
		{[]bool{F, T, T, T}, []int{0}},
		{[]bool{T, T, T, T}, nil},
		// Done, though what it needs is not.
		{[]bool{T, F, F, F}, []int{3}},
		{[]bool{T, F, F, T}, []int{1, 2}},
		{[]bool{F, T, F, F}, []int{3}},
		{[]bool{F, T, T, F}, []int{0, 3}},
		{[]bool{T, T, T, F}, []int{3}},
		{[]bool{T, T, F, F}, []int{3}},
	})
	// What a part needs is done, but not what that needs.
	checkReadyCases(t, callsBy([]int{1}, []int{2}, nil), []readyCase{
		{[]bool{F, F, F}, []int{2}},
		{[]bool{F, T, F}, []int{0, 2}},
		{[]bool{F, F, T}, []int{1}},
		{[]bool{T, F, T}, []int{1}},
		{[]bool{F, T, T}, []int{0}},
	})
}

// As many are done as there are parts, and not as there are procedures.
func TestGrfReadyByHowManyAreDone(t *testing.T) {
	for _, p := range []prog{
		callsBy(nil), callsBy([]int{1}, nil), callsBy([]int{1}, []int{0}), callsBy([]int{1}, []int{2}, nil), callsBy([]int{1}, []int{0, 3}, nil, nil),
		callsBy(nil, nil, nil, nil), callsBy([]int{1, 2, 3}, nil, nil, nil), callsBy([]int{3}, nil, nil, nil),
	} {
		many := len(listsOf(p).parts)
		for _, size := range []int{0, 1, 2, 3, 4, 5, 8, 1000, 65536} {
			for _, is := range []bool{false, true} {
				got := impl.GrfReady(p, slices.Repeat([]bool{is}, size))
				if (len(got) > 0) != (size == many && !is) {
					t.Errorf("GrfReady(%+v) of %d that are done: %v is %v", p, size, is, got)
				}
			}
		}
		if got := impl.GrfReady(p, nil); len(got) != 0 {
			t.Errorf("GrfReady(%+v) of none is %v", p, got)
		}
	}
}

// checkNobody asks everything of a program that is not ok.
func checkNobody(t *testing.T, p prog) {
	t.Helper()
	mustNotBeOk(t, p)
	for _, k := range append(counts(), -2) {
		for _, got := range [][]int{impl.GrfCalls(p, k), impl.GrfReach(p, k), impl.GrfPart(p, k), impl.GrfNeeds(p, k)} {
			if len(got) != 0 {
				t.Fatalf("of %+v and %d it is told %v", p, k, got)
			}
		}
	}
	if parts, order := impl.GrfParts(p), impl.GrfOrder(p); len(parts) != 0 || len(order) != 0 {
		t.Fatalf("of %+v the parts are %v, and the order %v", p, parts, order)
	}
	for size := range 7 {
		for _, done := range allDones(size) {
			if got := impl.GrfReady(p, done); len(got) != 0 {
				t.Fatalf("GrfReady(%+v, %v) = %v", p, done, got)
			}
		}
	}
}

func TestGraphsOfProgramsThatAreNotOk(t *testing.T) {
	for _, p := range badPrograms(t) {
		checkNobody(t, p)
	}
	five := callsBy([]int{1}, []int{2}, []int{3}, []int{4}, nil)
	checkNobody(t, five)
	for _, to := range []int{math.MinInt, -1, 3, 4, 5, 100, math.MaxInt} {
		checkNobody(t, callsBy([]int{1, 2}, nil, []int{to}))
		checkNobody(t, callsBy([]int{to}, []int{1}, nil))
	}
	// One alone is not ok, in whichever procedure, and though nobody can come to that.
	for k := range 3 {
		for _, bend := range []func(c *proc){
			func(c *proc) { c.Lo = c.Hi + 1 },
			func(c *proc) { c.Hi = greatest + 1 },
			func(c *proc) { c.Code = nil },
			func(c *proc) { c.Code[len(c.Code)-1] = ins{Op: impl.OpAdd} },
			func(c *proc) { c.Code[len(c.Code)-1].To = 1 },
			func(c *proc) { c.Code = append([]ins{{Op: impl.OpCall, B: 1, To: 1}}, c.Code...) },
			func(c *proc) { c.Code = append(slices.Repeat([]ins{{Op: impl.OpCall, To: 1}}, mostSteps), c.Code...) },
			func(c *proc) { c.Code = append([]ins{{Op: 13}}, c.Code...) },
		} {
			p := callsBy([]int{1}, []int{1}, nil)
			bend(&p.Procs[k])
			checkNobody(t, p)
		}
	}
}

// What there is not has none, beside what there is.
func TestGraphsOfWhatThereIsNot(t *testing.T) {
	eachGraph(101, func(p prog) {
		w := listsOf(p)
		for _, k := range append(counts(), -2) {
			if k < 0 || k >= len(p.Procs) {
				for _, got := range [][]int{impl.GrfCalls(p, k), impl.GrfReach(p, k), impl.GrfPart(p, k)} {
					if len(got) != 0 {
						t.Fatalf("of %+v and procedure %d it is told %v", p, k, got)
					}
				}
			}
			if got := impl.GrfNeeds(p, k); (k < 0 || k >= len(w.parts)) && len(got) != 0 {
				t.Fatalf("GrfNeeds(%+v, %d) = %v", p, k, got)
			}
		}
		for size := range 7 {
			if got := impl.GrfReady(p, make([]bool, size)); size != len(w.parts) && len(got) != 0 {
				t.Fatalf("GrfReady(%+v) of %d is %v", p, size, got)
			}
		}
	})
}

// progRoom is a program with room behind the end of each list, all of it filled.
func progRoom(p prog) prog {
	out := prog{Procs: append(make([]proc, 0, len(p.Procs)+4), p.Procs...)}
	for k := len(p.Procs); k < cap(out.Procs); k++ {
		out.Procs[:cap(out.Procs)][k] = proc{Lo: 71, Hi: 72, Code: []ins{{Op: impl.OpCall, To: 1}}}
	}
	for k, c := range p.Procs {
		code := append(make([]ins, 0, len(c.Code)+4), c.Code...)
		for at := len(c.Code); at < cap(code); at++ {
			code[:cap(code)][at] = ins{Op: impl.OpCall, To: at % 4}
		}
		out.Procs[k].Code = code
	}
	return out
}

// wholeProg tells a program with all that is behind its lists' ends.
func wholeProg(p prog) string {
	s := fmt.Sprintf("%+v", p.Procs[:cap(p.Procs)])
	for _, c := range p.Procs {
		s += fmt.Sprintf(" %+v", c.Code[:cap(c.Code)])
	}
	return s
}

// all are all lists of numbers that are told, by themselves.
func (w lists) all() [][]int {
	return slices.Concat(w.calls, w.reach, w.part, w.parts, w.needs, ints{w.order})
}

// fill writes each list, its room too, full of a number of its own, and looks for them when all were written.
func fill(t *testing.T, all [][]int) {
	t.Helper()
	for k, list := range all {
		for at := range list[:cap(list)] {
			list[:cap(list)][at] = 1000 + k
		}
	}
	for k, list := range all {
		for _, n := range list[:cap(list)] {
			if n != 1000+k {
				t.Fatalf("lists %d and %d of what was told share memory", k, n-1000)
			}
		}
	}
}

func TestGraphsShareNoMemory(t *testing.T) {
	eachGraph(101, func(given prog) {
		p := progRoom(given)
		was, want := wholeProg(p), listsOf(p)
		done := make([]bool, len(want.parts), len(want.parts)+3)
		for _, k := range want.order {
			wasDone := slices.Clone(done[:cap(done)])
			once, again := impl.GrfReady(p, done), impl.GrfReady(p, done)
			fill(t, ints{once, again})
			if !reflect.DeepEqual(done[:cap(done)], wasDone) {
				t.Fatalf("of %+v %v became %v", p, wasDone, done[:cap(done)])
			}
			done[k] = true
		}
		once, again := told(p), told(p)
		fill(t, append(once.all(), again.all()...))
		// The lists of parts are lists too.
		clear(once.parts[:cap(once.parts)])
		if len(again.parts[0]) == 0 {
			t.Fatalf("two answers of GrfParts(%+v) share memory", p)
		}
		if wholeProg(p) != was {
			t.Fatalf("%s became %s", was, wholeProg(p))
		}
		checkGraph(t, p)
	})
}

// What is not ok is left as it was, too.
func TestGraphsOfWhatIsNotOkLeaveItAsItWas(t *testing.T) {
	for _, given := range append(badPrograms(t), callsBy([]int{1}, []int{2}, []int{9}), callsBy(nil, nil, nil, nil, nil)) {
		p := progRoom(given)
		was := wholeProg(p)
		checkNobody(t, p)
		if wholeProg(p) != was {
			t.Errorf("%s became %s", was, wholeProg(p))
		}
	}
}
