package tests

import (
	"math"
	"math/rand"
	"testing"

	"loop.example/outwork/impl"
)

// mustTellNothing asks that nothing is told of a paper, with one that may be ok beside it on each side.
func mustTellNothing(t *testing.T, w papers) {
	t.Helper()
	if impl.CrtOk(w.p, w.part, w.a) {
		t.Fatalf("%v %+v is ok", w, w.a)
	}
	mustFlowNothing(t, w)
	for _, two := range [][2]cert{{w.a, w.b}, {w.b, w.a}, {w.a, w.a}} {
		mustBeCert(t, w, "CrtJoin", impl.CrtJoin(w.p, w.part, two[0], two[1]), cert{})
		mustBeCert(t, w, "CrtWide", impl.CrtWide(w.p, w.part, two[0], two[1]), cert{})
		if impl.CrtIn(w.p, w.part, two[0], two[1]) {
			t.Fatalf("%v %+v is within %+v", w, two[0], two[1])
		}
	}
	if told := impl.CrtAlarms(w.p, w.part, w.a); len(told) != 0 {
		t.Fatalf("%v of %+v it is told %v", w, w.a, told)
	}
	for _, at := range okRounds() {
		if impl.EngOk(w.p, w.part, engine{Phase: at[0], Round: at[1], Cert: w.a}) {
			t.Fatalf("%v an engine with %+v is ok", w, w.a)
		}
	}
}

// mustFlowNothing asks that nothing comes of a paper with sums of which one of both is not ok.
func mustFlowNothing(t *testing.T, w papers) {
	t.Helper()
	if own := impl.CrtSums(w.p, w.all, w.part, w.a); len(own) != 0 {
		t.Fatalf("%v with %+v CrtSums is %+v", w, w.a, own)
	}
	mustBeCert(t, w, "CrtFlow", impl.CrtFlow(w.p, w.all, w.part, w.a), cert{})
	if impl.CrtPost(w.p, w.all, w.part, w.a) {
		t.Fatalf("%v %+v is right", w, w.a)
	}
	for _, at := range okRounds() {
		e := engine{Phase: at[0], Round: at[1], Cert: w.a}
		if got := impl.EngStep(w.p, w.all, w.part, e); !sameEngine(got, engine{}) {
			t.Fatalf("%v behind %+v there is %+v", w, e, got)
		}
	}
}

// mustBegin asks whether a part has a beginning, and an engine an end.
func mustBegin(t *testing.T, p prog, all []sum, part []int, begins, runs bool) {
	t.Helper()
	start, begun := impl.CrtStart(p, part), impl.EngNew(p, part)
	if begins && !sameEngine(begun, engine{Phase: grows, Cert: start}) || !begins && (!sameEngine(begun, engine{}) || !sameCert(start, cert{})) {
		t.Fatalf("of the part %v of %+v CrtStart is %+v, and EngNew %+v", part, p, start, begun)
	}
	c, took := impl.EngRun(p, all, part)
	if runs != (took > 0) || runs != (len(c.States) > 0) || runs != (len(c.Outs) > 0) {
		t.Fatalf("of the part %v of %+v with %+v EngRun is %+v and %d", part, p, all, c, took)
	}
}

// badParts are no parts of so many procedures: empty, twice the same, falling, below 0, and beyond the last one.
func badParts(many int) [][]int {
	last := many - 1
	out := [][]int{nil, {}, {0, 0}, {last, last}, {-1}, {-1, 0}, {0, -1}, {many}, {0, many}, {last, many}, {last, many, many + 1}, {math.MinInt, 0}, {math.MaxInt}, {0, math.MaxInt}, make([]int, 100)}
	if many > 1 {
		out = append(out, []int{1, 0}, []int{last, 0}, []int{0, 1, 1}, []int{0, 1, 0}, []int{0, 0, 1}, []int{-1, 0, 1})
	}
	if many > 2 {
		out = append(out, []int{0, 2, 1}, []int{2, 1, 0}, []int{1, 0, 2}, []int{0, 1, 2, 2}, []int{0, 1, 2, 1})
	}
	return out
}

// paperFor has as much as it can of each of some procedures, though they may be no part.
func paperFor(p prog, part []int) cert {
	var c cert
	for _, k := range part {
		size := 1
		if k >= 0 && k < len(p.Procs) {
			size = len(p.Procs[k].Code)
		}
		c.States = append(c.States, make([]state, size))
	}
	c.Outs = make([]sum, len(part))
	return c
}

func TestPartsThatAreNotOk(t *testing.T) {
	eachDrawn(24, func(r *rand.Rand, p prog, all []sum, part []int) {
		for _, bad := range badParts(len(p.Procs)) {
			if isPart(p, bad) {
				t.Fatalf("%v is a part of %+v", bad, p)
			}
			mustBegin(t, p, all, bad, false, false)
			for _, c := range []cert{{}, paperFor(p, bad), drawnCert(r, p, part), startOf(p, []int{0})} {
				mustTellNothing(t, papers{p, all, bad, c, paperFor(p, bad)})
			}
		}
		for _, good := range anyParts(len(p.Procs)) {
			mustBegin(t, p, all, good, true, true)
		}
	})
}

// badCerts are not ok for a part, each but for one thing: too few and too many procedures, steps of each, and sums; and at each place a state, or a sum, that is not ok.
func badCerts(p prog, part []int) []cert {
	good := fullCert(p, part)
	out := []cert{{}, {States: good.States}, {Outs: good.Outs}}
	bend := func(turn func(c *cert)) {
		c := copiedCert(good)
		turn(&c)
		out = append(out, c)
	}
	some := good.States[0][0]
	bend(func(c *cert) { c.States = c.States[1:] })
	bend(func(c *cert) { c.States = append(c.States, c.States[0]) })
	bend(func(c *cert) { c.States = append(c.States, nil) })
	bend(func(c *cert) { c.Outs = c.Outs[1:] })
	bend(func(c *cert) { c.Outs = append(c.Outs, sum{}) })
	bend(func(c *cert) { c.Outs = append(c.Outs, c.Outs...) })
	bend(func(c *cert) { c.States, c.Outs = c.States[1:], c.Outs[1:] })
	bend(func(c *cert) { c.States, c.Outs = append(c.States, c.States[0]), append(c.Outs, sum{}) })
	for k, states := range good.States {
		bend(func(c *cert) { c.States[k] = nil })
		bend(func(c *cert) { c.States[k] = states[1:] })
		bend(func(c *cert) { c.States[k] = append(c.States[k], some) })
		bend(func(c *cert) { c.States[k] = append(c.States[k], state{}) })
		bend(func(c *cert) { c.Outs[k] = sum{Out: itv(0, 1)} })
		bend(func(c *cert) { c.Outs[k] = sum{Out: itv(1, 1)} })
		for _, b := range badBounds() {
			bend(func(c *cert) { c.Outs[k] = sum{On: true, Out: b} })
		}
		for pc := range states {
			for _, s := range badStates() {
				bend(func(c *cert) { c.States[k][pc] = s })
			}
		}
	}
	return out
}

func TestPapersThatAreNotOk(t *testing.T) {
	for _, p := range []prog{drawnPrograms(1)[0], program(1, 3), program(2, 1, 2)} {
		all := make([]sum, len(p.Procs))
		for _, part := range anyParts(len(p.Procs)) {
			good := fullCert(p, part)
			if !impl.CrtOk(p, part, good) {
				t.Fatalf("%+v is not ok", good)
			}
			for _, bad := range badCerts(p, part) {
				mustTellNothing(t, papers{p, all, part, bad, good})
			}
		}
	}
}

// A paper that is ok for one part is ok for another one only if that has as many steps.
func TestPapersOfOtherParts(t *testing.T) {
	p := program(1, 2, 2, 3)
	ok, not := 0, 0
	for _, part := range anyParts(4) {
		c := fullCert(p, part)
		for _, other := range anyParts(4) {
			if !isCert(p, other, c) {
				mustTellNothing(t, papers{p, make([]sum, 4), other, c, startOf(p, other)})
				not++
				continue
			}
			if !impl.CrtOk(p, other, c) {
				t.Fatalf("%+v is not ok for %v", c, other)
			}
			ok++
		}
	}
	if ok <= 15 || not == 0 {
		t.Errorf("%d were ok, and %d were not", ok, not)
	}
}

// What asks for sums tells nothing with those that are not ok; all else does not ask for them.
func TestPapersWithWrongSums(t *testing.T) {
	for _, p := range []prog{program(2), program(1, 3), program(2, 1, 2), program(1, 1, 1, 1)} {
		for _, part := range anyParts(len(p.Procs)) {
			for _, all := range append(badSums(len(p.Procs)), nil) {
				for _, c := range []cert{startOf(p, part), fullCert(p, part)} {
					mustFlowNothing(t, papers{p, all, part, c, c})
				}
				mustBegin(t, p, all, part, true, false)
			}
		}
	}
}

func TestPapersOfProgramsThatAreNotOk(t *testing.T) {
	for _, p := range badPrograms(t) {
		for _, part := range [][]int{nil, {0}, {1}, {0, 1}, {0, 1, 2, 3}} {
			for n := range 6 {
				all := make([]sum, n)
				mustBegin(t, p, all, part, false, false)
				mustTellNothing(t, papers{p, all, part, paperFor(p, part), paperFor(p, part)})
				mustTellNothing(t, papers{p, all, part, cert{}, cert{}})
			}
		}
	}
}

// certRoom is a paper with room behind the end of each list, filled.
func certRoom(c cert) cert {
	out := cert{States: append(make([][]state, 0, len(c.States)+2), c.States...)}
	for k, states := range c.States {
		list := make([]state, 0, len(states)+2)
		for _, s := range states {
			list = append(list, stateRoom(s))
		}
		out.States[k] = fillRoom(list, stateRoom(st(itv(71, 72), itv(71, 72), itv(71, 72), itv(71, 72), itv(71, 72))))
	}
	out.States = fillRoom(out.States, []state{{On: true}})
	out.Outs = fillRoom(append(make([]sum, 0, len(c.Outs)+2), c.Outs...), gives(71, 72))
	return out
}

func fillRoom[T any](list []T, one T) []T {
	spare := list[len(list):cap(list)]
	for k := range spare {
		spare[k] = one
	}
	return list
}

// answersOf is all that is told of two papers, and of an engine.
func answersOf(p prog, all []sum, part []int, a, b cert, e engine) []any {
	run, _ := impl.EngRun(p, all, part)
	return []any{
		impl.CrtStart(p, part), impl.CrtSums(p, all, part, a), impl.CrtFlow(p, all, part, a), impl.CrtAlarms(p, part, a),
		impl.CrtJoin(p, part, a, b), impl.CrtJoin(p, part, a, a), impl.CrtWide(p, part, a, b), impl.CrtWide(p, part, b, b),
		impl.EngNew(p, part), impl.EngStep(p, all, part, e), run,
	}
}

func TestPapersShareNoMemory(t *testing.T) {
	eachDrawn(120, func(r *rand.Rand, given prog, gave []sum, drawnPart []int) {
		p, part := progRoom(given), withRoom(drawnPart)
		all := fillRoom(append(make([]sum, 0, len(gave)+3), gave...), gives(71, 72))
		a, b := certRoom(drawnCert(r, p, part)), certRoom(drawnCert(r, p, part))
		pairs := [][2]cert{{a, b}, {certRoom(startOf(p, part)), a}, {certRoom(rightCert(p, all, part, b)), a}}
		for _, bad := range badCerts(p, part)[:12] {
			pairs = append(pairs, [2]cert{certRoom(bad), a})
		}
		for _, two := range pairs {
			at := okRounds()[r.Intn(10)]
			e := engine{Phase: at[0], Round: at[1], Cert: two[0]}
			was := wholeOf(p, all, part, two[0], two[1])
			impl.CrtOk(p, part, two[0])
			impl.CrtIn(p, part, two[0], two[1])
			impl.CrtPost(p, all, part, two[0])
			impl.EngOk(p, part, e)
			once, again := answersOf(p, all, part, two[0], two[1], e), answersOf(p, all, part, two[0], two[1], e)
			mustBeApart(t, []any{p, all, part, two[0], two[1]}, append(once, again...))
			if now := wholeOf(p, all, part, two[0], two[1]); now != was {
				t.Fatalf("%s became %s", was, now)
			}
		}
	})
}
