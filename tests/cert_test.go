package tests

import (
	"math/rand"
	"slices"
	"testing"

	"loop.example/outwork/impl"
)

func TestPromise54WhatComesToTheStepsIsMoreOfMore(t *testing.T) {
	eachDrawn(800, func(r *rand.Rand, p prog, all []sum, part []int) {
		more := drawnCert(r, p, part)
		less := lessCert(r, more)
		for _, two := range [][2]cert{{less, more}, {startOf(p, part), less}, {more, fullCert(p, part)}, {lessCert(r, less), less}} {
			x, y := impl.CrtFlow(p, all, part, two[0]), impl.CrtFlow(p, all, part, two[1])
			if !impl.CrtIn(p, part, two[0], two[1]) || !impl.CrtIn(p, part, x, y) {
				t.Fatalf("of the part %v of %+v what comes of %+v is %+v, but of %+v %+v", part, p, two[0], x, two[1], y)
			}
			checkEntries(t, p, part, x)
		}
		checkOnlyEntries(t, p, part, impl.CrtFlow(p, all, part, impl.CrtStart(p, part)))
	})
}

func checkEntries(t *testing.T, p prog, part []int, flow cert) {
	t.Helper()
	for k, proc := range part {
		if entry := impl.AbsEntry(p.Procs[proc]); !entry.On || !impl.AbsIn(entry, flow.States[k][0]) {
			t.Fatalf("to the beginning of procedure %d of %+v comes %+v", proc, p, flow.States[k][0])
		}
	}
}

// checkOnlyEntries asks that nothing is there but what may be given.
func checkOnlyEntries(t *testing.T, p prog, part []int, flow cert) {
	t.Helper()
	want := startOf(p, part)
	for k, proc := range part {
		want.States[k][0] = impl.AbsEntry(p.Procs[proc])
	}
	if !sameCert(flow, want) {
		t.Fatalf("where nothing comes anywhere of the part %v of %+v there comes %+v", part, p, flow)
	}
}

// Of each step that calls and ends nothing, alone in a program.
func TestPromise54OfEachStepAlone(t *testing.T) {
	r := rand.New(rand.NewSource(54))
	for _, i := range ownSteps() {
		p, part := alone(i), []int{0}
		all := drawnSums(r, p)
		more := drawnCert(r, p, part)
		less := lessCert(r, more)
		x, y := impl.CrtFlow(p, all, part, less), impl.CrtFlow(p, all, part, more)
		if !impl.CrtIn(p, part, x, y) {
			t.Fatalf("by %+v what comes of %+v is %+v, but of %+v %+v", i, less, x, more, y)
		}
	}
}

func TestPromise55WhatFollowsFromARightPaperIsRight(t *testing.T) {
	shrank := 0
	eachDrawn(500, func(r *rand.Rand, p prog, all []sum, part []int) {
		made, _ := impl.EngRun(p, all, part)
		for _, c := range []cert{made, fullCert(p, part), rightCert(p, all, part, drawnCert(r, p, part)), rightCert(p, all, part, startOf(p, part))} {
			for range 8 {
				if !impl.CrtPost(p, all, part, c) {
					t.Fatalf("of the part %v of %+v with %+v %+v is not right", part, p, all, c)
				}
				next := impl.CrtFlow(p, all, part, c)
				if !impl.CrtIn(p, part, next, c) {
					t.Fatalf("of the part %v of %+v %+v is right, and %+v comes of it", part, p, c, next)
				}
				if !sameCert(next, c) {
					shrank++
				}
				c = next
			}
		}
	})
	if shrank < 500 {
		t.Errorf("only %d papers shrank", shrank)
	}
}

// smallProgram has one procedure of one step, so that a paper has one state and one sum.
func smallProgram(t *testing.T) prog {
	return read(t, "procs 1", "proc 0 1 size 1", "ret b")
}

// fewCerts are papers of a small program with few bounds: of so few each is within some others.
func fewCerts() []cert {
	var out []cert
	for _, s := range fewStates() {
		for _, o := range []sum{{}, gives(0, 0), gives(0, 1), gives(1, 1)} {
			out = append(out, cert{States: [][]state{{s}}, Outs: []sum{o}})
		}
	}
	return out
}

// eachTwo sees each two of few papers, and drawn ones of drawn parts.
func eachTwo(t *testing.T, see func(p prog, part []int, a, b cert)) {
	t.Helper()
	small := smallProgram(t)
	for _, a := range fewCerts() {
		for _, b := range fewCerts() {
			see(small, []int{0}, a, b)
		}
	}
	eachDrawn(300, func(r *rand.Rand, p prog, all []sum, part []int) {
		a, start := drawnCert(r, p, part), impl.CrtStart(p, part)
		few := []cert{a, start, lessCert(r, a), drawnCert(r, p, part), impl.CrtFlow(p, all, part, a), fullCert(p, part)}
		for _, x := range few {
			for _, y := range few {
				see(p, part, x, y)
			}
		}
	})
}

func TestPromise56TheJoinOfPapersHasBoth(t *testing.T) {
	eachTwo(t, func(p prog, part []int, a, b cert) {
		j := impl.CrtJoin(p, part, a, b)
		if !impl.CrtIn(p, part, a, j) || !impl.CrtIn(p, part, b, j) {
			t.Fatalf("the join of %+v and %+v is %+v", a, b, j)
		}
		if other := impl.CrtJoin(p, part, b, a); !sameCert(j, other) {
			t.Fatalf("the join of %+v and %+v is %+v, but the other way round %+v", a, b, j, other)
		}
		for _, once := range []cert{a, b, j} {
			if more := impl.CrtJoin(p, part, j, once); !sameCert(more, j) {
				t.Fatalf("the join of %+v and %+v is %+v, and joined with %+v once more %+v", a, b, j, once, more)
			}
		}
		if !sameCert(j, byPlace(a, b, both)) {
			t.Fatalf("the join of %+v and %+v is %+v", a, b, j)
		}
	})
}

func TestPromise57APaperThatGrowsHasBoth(t *testing.T) {
	eachTwo(t, func(p prog, part []int, a, b cert) {
		w := impl.CrtWide(p, part, a, b)
		if !impl.CrtIn(p, part, a, w) || !impl.CrtIn(p, part, b, w) {
			t.Fatalf("%+v grown over %+v is %+v", a, b, w)
		}
		if impl.CrtIn(p, part, b, a) && !sameCert(w, a) {
			t.Fatalf("%+v grown over %+v, which is on it, is %+v", a, b, w)
		}
		for _, once := range []cert{a, b, w} {
			if more := impl.CrtWide(p, part, w, once); !sameCert(more, w) {
				t.Fatalf("%+v grown over %+v is %+v, and over %+v once more %+v", a, b, w, once, more)
			}
		}
		if !sameCert(w, byPlace(a, b, grown)) {
			t.Fatalf("%+v grown over %+v is %+v", a, b, w)
		}
	})
}

func TestPromise58ToBeWithinIsAnOrderOnPapers(t *testing.T) {
	eachTwo(t, func(p prog, part []int, a, b cert) {
		start := impl.CrtStart(p, part)
		if !impl.CrtIn(p, part, a, a) || !impl.CrtIn(p, part, start, a) {
			t.Fatalf("%+v is not within itself, or nothing is not within it", a)
		}
		if impl.CrtIn(p, part, a, b) && impl.CrtIn(p, part, b, a) != sameCert(a, b) {
			t.Fatalf("%+v and %+v are within each other: %v", a, b, impl.CrtIn(p, part, b, a))
		}
		if impl.CrtIn(p, part, a, b) != isOnIt(a, b) || impl.CrtIn(p, part, a, start) != sameCert(a, start) {
			t.Fatalf("%+v is within %+v: %v", a, b, impl.CrtIn(p, part, a, b))
		}
	})
}

// What is within another one is within all that has that.
func TestPromise58OfThreePapers(t *testing.T) {
	p, part, all := smallProgram(t), []int{0}, fewCerts()
	for _, a := range all {
		for _, b := range all {
			if !impl.CrtIn(p, part, a, b) {
				continue
			}
			for _, c := range all {
				if isOnIt(b, c) && !impl.CrtIn(p, part, a, c) {
					t.Fatalf("%+v is within %+v, and that within %+v", a, b, c)
				}
			}
		}
	}
}

func TestPromise59WhatMayFailIsToldPlaceByPlace(t *testing.T) {
	some, none := 0, 0
	eachDrawn(900, func(r *rand.Rand, p prog, all []sum, part []int) {
		more := drawnCert(r, p, part)
		for _, c := range []cert{more, lessCert(r, more), impl.CrtStart(p, part), fullCert(p, part)} {
			told := impl.CrtAlarms(p, part, c)
			if !slices.IsSortedFunc(told, func(a, b site) int { return (a.Proc-b.Proc)*100 + a.Pc - b.Pc }) || len(slices.Compact(slices.Clone(told))) != len(told) {
				t.Fatalf("%v does not rise", told)
			}
			for k, proc := range part {
				for pc, i := range p.Procs[proc].Code {
					may := impl.AbsFails(p, i, c.States[k][pc])
					if may != slices.Contains(told, site{Proc: proc, Pc: pc}) {
						t.Fatalf("%+v may fail with %+v: %v, but it is told %v", i, c.States[k][pc], may, told)
					}
					if may {
						some++
					} else {
						none++
					}
				}
			}
			for _, at := range told {
				if impl.CrtIn(p, part, c, more) && !slices.Contains(impl.CrtAlarms(p, part, more), at) {
					t.Fatalf("%v is told of %+v, but not of %+v", at, c, more)
				}
				if !slices.Contains(part, at.Proc) {
					t.Fatalf("%v is told, and is not of the part %v", at, part)
				}
			}
		}
	})
	if some < 1000 || none < 1000 {
		t.Errorf("%d places may fail, and %d may not", some, none)
	}
}

func TestPromise60APapersSumsStandInTheirPlaces(t *testing.T) {
	eachDrawn(1500, func(r *rand.Rand, p prog, all []sum, part []int) {
		c := drawnCert(r, p, part)
		got := impl.CrtSums(p, all, part, c)
		if len(got) != len(p.Procs) || !impl.SumsOk(p, got) {
			t.Fatalf("of %+v CrtSums is %+v", p, got)
		}
		for proc, s := range got {
			want := all[proc]
			if k := slices.Index(part, proc); k >= 0 {
				want = c.Outs[k]
			}
			if s != want {
				t.Fatalf("with %+v and %+v of the part %v procedure %d gives %+v", all, c.Outs, part, proc, s)
			}
		}
	})
}
