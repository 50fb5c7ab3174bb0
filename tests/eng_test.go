package tests

import (
	"fmt"
	"math/rand"
	"slices"
	"testing"

	"loop.example/outwork/impl"
)

type engine = impl.EngEng

// How far an engine is, and how many rounds there are, is written out, so that a constant that was turned is seen.
const (
	grows       = 1
	shrinks     = 2
	isDone      = 3
	plainRounds = 2
	backRounds  = 6
	mostRounds  = 5000
)

func sameEngine(a, b engine) bool {
	return a.Phase == b.Phase && a.Round == b.Round && sameCert(a.Cert, b.Cert)
}

// isEngine is what EngOk should tell by a program that is ok.
func isEngine(p prog, part []int, e engine) bool {
	last := map[int]int{grows: plainRounds, shrinks: backRounds - 1, isDone: 0}
	most, is := last[e.Phase]
	return is && e.Round >= 0 && e.Round <= most && isCert(p, part, e.Cert)
}

// engineStepped is what EngStep should tell of sums and an engine that are ok.
func engineStepped(p prog, all []sum, part []int, e engine) engine {
	flow := flowOf(p, all, part, e.Cert)
	switch {
	case e.Phase == isDone:
		return e
	case e.Phase == shrinks && e.Round == backRounds-1:
		return engine{Phase: isDone, Cert: flow}
	case e.Phase == shrinks:
		return engine{Phase: shrinks, Round: e.Round + 1, Cert: flow}
	case isOnIt(flow, e.Cert):
		return engine{Phase: shrinks, Cert: e.Cert}
	}
	joined := byPlace(e.Cert, flow, both)
	if e.Round < plainRounds {
		return engine{Phase: grows, Round: e.Round + 1, Cert: joined}
	}
	return engine{Phase: grows, Round: e.Round, Cert: byPlace(e.Cert, joined, grown)}
}

func checkEngStep(t *testing.T, p prog, all []sum, part []int, e engine) engine {
	t.Helper()
	got, want := impl.EngStep(p, all, part, e), engineStepped(p, all, part, e)
	if !sameEngine(got, want) {
		t.Fatalf("of the part %v of %+v with %+v behind %+v there is %+v, not %+v", part, p, all, e, got, want)
	}
	return got
}

// checkEngRun asks what promises 4 and 61 say of a part, and says how many rounds it took.
func checkEngRun(t *testing.T, p prog, all []sum, part []int) int {
	t.Helper()
	c, took := impl.EngRun(p, all, part)
	name := fmt.Sprintf("of the part %v of %+v with %+v", part, p, all)
	if !impl.CrtOk(p, part, c) || !impl.CrtPost(p, all, part, c) {
		t.Fatalf("%s the engine makes %+v, which is not right", name, c)
	}
	if took < 1 || took > mostRounds {
		t.Fatalf("%s it takes %d rounds", name, took)
	}
	e := impl.EngNew(p, part)
	for k := range took {
		if e.Phase == isDone {
			t.Fatalf("%s it is done behind %d rounds, not %d", name, k, took)
		}
		e = impl.EngStep(p, all, part, e)
	}
	if !sameEngine(e, engine{Phase: isDone, Cert: c}) {
		t.Fatalf("%s it makes %+v, but step by step %+v", name, c, e)
	}
	if more := impl.EngStep(p, all, part, e); !sameEngine(more, e) {
		t.Fatalf("%s it is done with %+v, and one step more leads to %+v", name, e, more)
	}
	return took
}

// restless programs count up and down without an end, in all ways that a few steps have.
func restless(r *rand.Rand, procs int) prog {
	p := lively(r, procs)
	for k := range p.Procs {
		for pc := range p.Procs[k].Code {
			i := &p.Procs[k].Code[pc]
			if r.Intn(3) > 0 && i.Op != impl.OpRet && i.Op != impl.OpJump {
				*i = ins{Op: 1 + r.Intn(4), D: r.Intn(4), A: r.Intn(4), B: r.Intn(4)}
			}
			if i.Op == impl.OpRet && r.Intn(3) > 0 {
				*i = ins{Op: impl.OpJump, To: r.Intn(pc + 1)}
			}
		}
	}
	return p
}

// eachRun sees programs drawn with all their parts, or with one.
func eachRun(see func(p prog, all []sum, part []int)) {
	eachDrawn(500, func(r *rand.Rand, p prog, all []sum, part []int) { see(p, all, part) })
	r := rand.New(rand.NewSource(61))
	for k := range 150 {
		p := restless(r, 1+k%mostProcs)
		for _, part := range anyParts(len(p.Procs)) {
			see(p, drawnSums(r, p), part)
			see(p, make([]sum, len(p.Procs)), part)
		}
	}
}

func TestPromises4And61WhatTheEngineMakesIsRightAndItComesToItsEnd(t *testing.T) {
	longest, many := 0, 0
	eachRun(func(p prog, all []sum, part []int) {
		longest = max(longest, checkEngRun(t, p, all, part))
		many++
	})
	if longest < 60 {
		t.Errorf("of %d parts none took more than %d rounds", many, longest)
	}
}

// With other sums for the part's own procedures it is right too: it is the paper that says what these give.
func TestPromise4WhateverTheOwnSums(t *testing.T) {
	eachDrawn(400, func(r *rand.Rand, p prog, all []sum, part []int) {
		c, took := impl.EngRun(p, all, part)
		for range 3 {
			other := drawnSums(r, p)
			for proc := range p.Procs {
				if !slices.Contains(part, proc) {
					other[proc] = all[proc]
				}
			}
			d, again := impl.EngRun(p, other, part)
			if !sameCert(c, d) || took != again || !impl.CrtPost(p, other, part, c) {
				t.Fatalf("of the part %v of %+v with %+v it is %+v, and with %+v %+v", part, p, all, c, other, d)
			}
		}
	})
}

// The same, whatever it was before, and whoever else asks.
func TestEngRunIsTheSameEachTime(t *testing.T) {
	eachDrawn(150, func(r *rand.Rand, p prog, all []sum, part []int) {
		c, took := impl.EngRun(p, all, part)
		told := make(chan bool, 4)
		for range 4 {
			go func() {
				d, again := impl.EngRun(p, all, part)
				told <- sameCert(c, d) && took == again
			}()
		}
		for range 4 {
			if !<-told {
				t.Fatalf("of the part %v of %+v with %+v it is not the same each time", part, p, all)
			}
		}
	})
}

// checkRound asks what promise 62 says of one round.
func checkRound(t *testing.T, p prog, all []sum, part []int, e engine) engine {
	t.Helper()
	next := impl.EngStep(p, all, part, e)
	if !impl.EngOk(p, part, e) || !impl.EngOk(p, part, next) {
		t.Fatalf("%+v leads to %+v, and one of both is not ok", e, next)
	}
	if e.Phase == grows && !impl.CrtIn(p, part, e.Cert, next.Cert) {
		t.Fatalf("%+v grows, but is not within %+v", e, next)
	}
	if e.Phase == shrinks {
		if !sameCert(next.Cert, impl.CrtFlow(p, all, part, e.Cert)) {
			t.Fatalf("%+v shrinks, but not to what comes of it: %+v", e, next)
		}
		if impl.CrtPost(p, all, part, e.Cert) && !impl.CrtPost(p, all, part, next.Cert) {
			t.Fatalf("%+v is right, but not %+v", e, next)
		}
	}
	return next
}

func TestPromise62AnEngineGrowsAndThenItShrinks(t *testing.T) {
	seen := map[[2]int]int{}
	eachDrawn(400, func(r *rand.Rand, p prog, all []sum, part []int) {
		e := impl.EngNew(p, part)
		for e.Phase != isDone {
			seen[[2]int{e.Phase, e.Round}]++
			e = checkRound(t, p, all, part, e)
		}
		checkRound(t, p, all, part, e)
	})
	for _, at := range okRounds() {
		if at[0] != isDone && seen[at] == 0 {
			t.Errorf("no engine was seen in phase %d and Round %d", at[0], at[1])
		}
	}
}

// okRounds are all phases with all their Rounds.
func okRounds() [][2]int {
	return [][2]int{{1, 0}, {1, 1}, {1, 2}, {2, 0}, {2, 1}, {2, 2}, {2, 3}, {2, 4}, {2, 5}, {3, 0}}
}

// From each phase at each of its Rounds on, with any paper that is ok: right, not right, empty and full.
func TestEngStepFromEachRound(t *testing.T) {
	eachDrawn(250, func(r *rand.Rand, p prog, all []sum, part []int) {
		a := drawnCert(r, p, part)
		made, _ := impl.EngRun(p, all, part)
		for _, c := range []cert{startOf(p, part), a, lessCert(r, made), made, rightCert(p, all, part, a), fullCert(p, part)} {
			for _, at := range okRounds() {
				e := engine{Phase: at[0], Round: at[1], Cert: c}
				checkEngStep(t, p, all, part, e)
				checkRound(t, p, all, part, e)
			}
		}
	})
}

// An engine whose paper was not made by it comes to its end too; what it has made is right, if it grew until then.
func TestEnginesThatBeginAnywhere(t *testing.T) {
	eachDrawn(250, func(r *rand.Rand, p prog, all []sum, part []int) {
		for _, at := range okRounds() {
			e := engine{Phase: at[0], Round: at[1], Cert: drawnCert(r, p, part)}
			took := 0
			for ; e.Phase != isDone; took++ {
				e = checkEngStep(t, p, all, part, e)
			}
			if took > mostRounds || at[0] == grows && !impl.CrtPost(p, all, part, e.Cert) {
				t.Fatalf("behind %d rounds it makes %+v", took, e)
			}
		}
	})
}
