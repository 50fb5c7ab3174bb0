package tests

import (
	"fmt"
	"math/rand"
	"slices"
	"testing"

	"loop.example/outwork/impl"
)

// mostWalk is how many steps of a run are followed.
const mostWalk = 150

// trail is a run that is followed step by step, beside papers of all parts of its program.
type trail struct {
	p     prog
	parts [][]int
	certs []cert
	at    run
	met   met
}

// met is how many steps, calls that came back, and calls one in the other runs had.
type met struct{ steps, backs, depth int }

func (m met) and(other met) met {
	return met{m.steps + other.steps, m.backs + other.backs, max(m.depth, other.depth)}
}

func newTrail(p prog, certs []cert, arg int) *trail {
	return &trail{p: p, parts: impl.GrfParts(p), certs: certs, at: impl.RunNew(p, 0, arg)}
}

// pageOf is where a procedure stands: its part, and its place in that.
func (w *trail) pageOf(proc int) (int, int) {
	for k, part := range w.parts {
		if at := slices.Index(part, proc); at >= 0 {
			return k, at
		}
	}
	return -1, -1
}

// mustBeWithin asks that each call is within what the papers say of its place.
func (w *trail) mustBeWithin(t *testing.T) {
	t.Helper()
	for _, f := range w.at.Frames {
		k, at := w.pageOf(f.Proc)
		if k < 0 {
			t.Fatalf("of %+v no paper tells of procedure %d, and a run is there: %+v", w.p, f.Proc, w.at)
		}
		if s := w.certs[k].States[at][f.Pc]; !impl.AbsHas(s, f.Vars, f.Cells) {
			t.Fatalf("of %+v the papers say %+v of place %d of procedure %d, and a run is there with %+v", w.p, s, f.Pc, f.Proc, f)
		}
	}
}

// mustGive asks that what a procedure gave is in what its paper says that it gives.
func (w *trail) mustGive(t *testing.T, proc, out int) {
	t.Helper()
	k, at := w.pageOf(proc)
	if s := w.certs[k].Outs[at]; !s.On || !impl.ItvHas(s.Out, out) {
		t.Fatalf("of %+v procedure %d gives %+v by its paper, and it gave %d", w.p, proc, s, out)
	}
}

// step goes on, and asks for what was given, or where it failed.
func (w *trail) step(t *testing.T, in int) {
	t.Helper()
	w.mustBeWithin(t)
	was := w.at
	top := was.Frames[len(was.Frames)-1]
	w.at = impl.RunStep(w.p, was, in)
	w.met = w.met.and(met{steps: 1, depth: len(w.at.Frames)})
	i, _ := impl.PrgAt(w.p, top.Proc, top.Pc)
	if i.Op == impl.OpRet {
		w.mustGive(t, top.Proc, top.Vars[i.A])
		w.met.backs++
	}
	if w.at.State == done {
		w.mustGive(t, 0, w.at.Out)
	}
	if w.at.State == fails {
		w.mustSay(t, spot(w.at.Proc, w.at.Pc))
	}
}

// mustSay asks that papers say that a place may fail.
func (w *trail) mustSay(t *testing.T, at site) {
	t.Helper()
	k, page := w.pageOf(at.Proc)
	i, _ := impl.PrgAt(w.p, at.Proc, at.Pc)
	if !impl.AbsFails(w.p, i, w.certs[k].States[page][at.Pc]) || !slices.Contains(impl.CrtAlarms(w.p, w.parts[k], w.certs[k]), at) {
		t.Fatalf("of %+v a run failed at %v, and the papers do not say so: %+v", w.p, at, w.certs)
	}
}

// follow goes on until the run does not.
func (w *trail) follow(t *testing.T, r *rand.Rand) {
	t.Helper()
	for w.met.steps < mostWalk && w.at.State == goes {
		w.step(t, drawnIn(r))
	}
}

// somePapers are papers of all parts that are right by those of the parts that they call: the greatest ones, those that are made, some that have grown from anything, what comes of these, and some of each.
func somePapers(r *rand.Rand, p prog) [][]cert {
	parts := impl.GrfParts(p)
	out := [][]cert{impl.SeqCerts(p)}
	for range 3 {
		certs, all := make([]cert, len(parts)), make([]sum, len(p.Procs))
		for _, k := range impl.GrfOrder(p) {
			certs[k] = rightPaper(r, p, all, parts[k])
			all = ownSums(all, parts[k], certs[k])
		}
		out = append(out, certs)
	}
	return out
}

func rightPaper(r *rand.Rand, p prog, all []sum, part []int) cert {
	switch r.Intn(5) {
	case 0:
		return fullCert(p, part)
	case 1:
		made, _ := impl.EngRun(p, all, part)
		return made
	case 2:
		return rightCert(p, all, part, drawnCert(r, p, part))
	case 3:
		return rightCert(p, all, part, startOf(p, part))
	}
	return impl.CrtFlow(p, all, part, rightCert(p, all, part, lessCert(r, drawnCert(r, p, part))))
}

// mustBeRight asks whether papers are what promise 3 speaks of.
func mustBeRight(t *testing.T, p prog, certs []cert) {
	t.Helper()
	parts := impl.GrfParts(p)
	all := partSums(p, parts, certs)
	for k, part := range parts {
		if !impl.CrtPost(p, all, part, certs[k]) {
			t.Fatalf("of the part %v of %+v with %+v %+v is not right", part, p, all, certs[k])
		}
	}
}

// givenArgs are some of what a procedure may be given, both ends among them.
func givenArgs(r *rand.Rand, c proc) []int {
	return []int{c.Lo, c.Hi, c.Lo + r.Intn(c.Hi-c.Lo+1), c.Lo + r.Intn(c.Hi-c.Lo+1)}
}

func TestPromise3APaperThatIsRightSaysAllThatCanCome(t *testing.T) {
	ended, all := map[int]int{}, met{}
	eachSeq(800, func(r *rand.Rand, p prog) {
		for _, certs := range somePapers(r, p) {
			mustBeRight(t, p, certs)
			for _, arg := range givenArgs(r, p.Procs[0]) {
				w := newTrail(p, certs, arg)
				w.follow(t, r)
				ended[w.at.State]++
				all = all.and(w.met)
			}
		}
	})
	if ended[goes] < 500 || ended[done] < 500 || ended[fails] < 500 || ended[deep] < 100 || all.depth != mostDepth || all.backs < 5000 {
		t.Errorf("runs ended so: %v, with so many steps, calls that came back, and calls one in the other: %v", ended, all)
	}
}

// mustTell asks that a run of a text, which goes on for more than RunMaxFuel steps, fails at no place but those that its verdict tells.
func mustTell(t *testing.T, lines []string, v verdict, p prog, arg int, ins []int) run {
	t.Helper()
	last := impl.RunNew(p, 0, arg)
	for range 3 {
		last = impl.RunMany(p, last, ins, mostFuel)
	}
	if last.State == fails && !slices.Contains(v.Sites, spot(last.Proc, last.Pc)) {
		t.Fatalf("of %q the verdict is %+v, and given %d, with %v coming in, it comes to %+v", lines, v, arg, ins, last)
	}
	return last
}

func drawnIns(r *rand.Rand) []int {
	var out []int
	for range r.Intn(60) {
		out = append(out, drawnIn(r))
	}
	return out
}

func TestPromise5NothingFailsWhereTheVerdictDoesNotSaySo(t *testing.T) {
	kinds, ended, places := map[int]int{}, map[int]int{}, map[string]bool{}
	eachSeq(1500, func(r *rand.Rand, p prog) {
		lines := impl.PrgPrint(p)
		v := impl.SeqVerdict(lines)
		kinds[v.Kind]++
		for range 3 {
			for _, arg := range givenArgs(r, p.Procs[0]) {
				last := mustTell(t, lines, v, p, arg, drawnIns(r))
				ended[last.State]++
				if last.State == fails {
					places[fmt.Sprint(lines, last.Proc, last.Pc)] = true
				}
			}
		}
	})
	if kinds[saysSafe] < 100 || kinds[saysAlarms] < 300 || len(kinds) != 2 || ended[fails] < 2000 || ended[done] < 2000 || len(places) < 800 {
		t.Errorf("so often was each kind seen: %v, so often each end: %v, at %d places", kinds, ended, len(places))
	}
}

// Of few numbers all are given, and all that can come in comes in.
func TestPromise5WhateverComesIn(t *testing.T) {
	for _, lines := range [][]string{
		{"procs 1", "proc -3 3 size 4", "any b -2 2", "div c a b", "load d c", "ret d"},
		{"procs 2", "proc -2 6 size 4", "any b -1 4", "store b a", "call c 1 b", "ret c", "proc 0 3 size 4", "any b 0 3", "load c b", "assert c <= a", "ret c"},
		{"procs 2", "proc 0 4 size 5", "any b 0 3", "if a < b 3", "call c 1 a", "assert c != b", "ret c", "proc 0 2 size 4", "any b -2 2", "if a < b 3", "call a 0 a", "ret b"},
	} {
		p, v := read(t, lines...), impl.SeqVerdict(lines)
		failed := map[site]bool{}
		for arg := p.Procs[0].Lo; arg <= p.Procs[0].Hi; arg++ {
			for n := range 6 * 6 * 6 * 6 {
				if last := mustTell(t, lines, v, p, arg, []int{n % 6, n / 6 % 6, n / 36 % 6, n / 216}); last.State == fails {
					failed[spot(last.Proc, last.Pc)] = true
				}
			}
		}
		if len(failed) == 0 || len(failed) > len(v.Sites) {
			t.Errorf("of %q runs failed at %v, and the verdict is %+v", lines, failed, v)
		}
	}
}

func TestPromise5OfATextThatIsWrongTheLineIsTold(t *testing.T) {
	r := rand.New(rand.NewSource(5))
	others := otherLines()
	wrong := 0
	see := func(lines []string) {
		v := impl.SeqVerdict(lines)
		if line := firstWrong(lines); line != 0 {
			wrong++
			if !sameVerdict(v, wrongAt(line)) {
				t.Fatalf("line %d of %q is wrong, and the verdict is %+v", line, lines, v)
			}
		} else if v.Kind == saysWrong || v.Line != 0 {
			t.Fatalf("no line of %q is wrong, and the verdict is %+v", lines, v)
		}
		checkVerdict(t, lines, v)
	}
	eachSeq(300, func(_ *rand.Rand, p prog) {
		lines := linesOf(p)
		for k := range lines {
			see(with(lines, k, others[r.Intn(len(others))]))
			see(lines[:k])
		}
		see(append(slices.Clone(lines), others[r.Intn(len(others))]))
	})
	if wrong < 5000 {
		t.Errorf("only %d texts were wrong", wrong)
	}
}

// straight is a program of one procedure that may be given one number; its steps set one number each, reckon, assert and end.
func straight(r *rand.Rand) prog {
	few := []int{-2, -1, 0, 1, 2, 3, 300, least, greatest}
	draw := func() int { return few[r.Intn(len(few))] }
	given := draw()
	c := proc{Lo: given, Hi: given}
	for range r.Intn(mostSteps) {
		i := ins{Op: 1 + r.Intn(4), D: r.Intn(4), A: r.Intn(4), B: r.Intn(4)}
		switch r.Intn(8) {
		case 0, 1, 2:
			n := draw()
			i = ins{Op: impl.OpAny, D: r.Intn(4), Lo: n, Hi: n}
		case 3, 4:
			i = ins{Op: impl.OpAssert, Rel: 1 + r.Intn(4), A: r.Intn(4), B: r.Intn(4)}
		case 5:
			if r.Intn(6) == 0 {
				i = ins{Op: impl.OpRet, A: r.Intn(4)}
			}
		}
		c.Code = append(c.Code, i)
	}
	c.Code = append(c.Code, ins{Op: impl.OpRet, A: r.Intn(4)})
	return prog{Procs: []proc{c}}
}

func TestPromise63WhereNothingIsOpenTheVerdictIsWhatHappens(t *testing.T) {
	r := rand.New(rand.NewSource(63))
	ended := map[int]int{}
	ats := map[int]int{}
	for range 6000 {
		p := straight(r)
		lines := impl.PrgPrint(p)
		last := impl.RunMany(p, impl.RunNew(p, 0, p.Procs[0].Lo), nil, mostFuel)
		want := safe()
		if last.State == fails {
			want = alarms(spot(last.Proc, last.Pc))
			ats[last.Pc]++
		}
		if got := impl.SeqVerdict(lines); !sameVerdict(got, want) {
			t.Fatalf("of %q the verdict is %+v, and its run comes to %+v", lines, got, last)
		}
		ended[last.State]++
	}
	if ended[done] < 1500 || ended[fails] < 1500 || len(ended) != 2 {
		t.Errorf("runs ended so: %v", ended)
	}
	for pc := range mostSteps - 1 {
		if ats[pc] == 0 {
			t.Errorf("no run failed at place %d", pc)
		}
	}
}

func TestPromise64EachPartsPaperIsMadeOfThoseThatItNeeds(t *testing.T) {
	eachSeq(800, func(r *rand.Rand, p prog) {
		certs, parts := impl.SeqCerts(p), impl.GrfParts(p)
		if len(certs) != len(parts) {
			t.Fatalf("of %+v there are %d papers of %d parts", p, len(certs), len(parts))
		}
		all, rounds := make([]sum, len(p.Procs)), 0
		for _, k := range impl.GrfOrder(p) {
			checkOnePaper(t, p, all, parts[k], certs[k])
			checkOnePaper(t, p, neededSums(p, k, certs), parts[k], certs[k])
			_, took := impl.EngRun(p, all, parts[k])
			rounds += took
			all = impl.CrtSums(p, all, parts[k], certs[k])
		}
		mustBeRight(t, p, certs)
		if got := impl.SeqRounds(p); got != rounds {
			t.Fatalf("SeqRounds(%+v) = %d, and the engine takes %d", p, got, rounds)
		}
	})
}

func checkOnePaper(t *testing.T, p prog, all []sum, part []int, c cert) {
	t.Helper()
	made, _ := impl.EngRun(p, all, part)
	if !sameCert(made, c) || !impl.CrtPost(p, all, part, c) {
		t.Fatalf("of the part %v of %+v the paper is %+v, and with %+v the engine makes %+v", part, p, c, all, made)
	}
}

// neededSums are the sums of just those parts that one needs.
func neededSums(p prog, k int, certs []cert) []sum {
	all, parts := make([]sum, len(p.Procs)), impl.GrfParts(p)
	for _, needed := range impl.GrfNeeds(p, k) {
		all = impl.CrtSums(p, all, parts[needed], certs[needed])
	}
	return all
}

func TestPromise65WhatCannotBeComeToMakesNoDifference(t *testing.T) {
	kinds := map[int]int{}
	eachSeq(1500, func(r *rand.Rand, p prog) {
		many := len(p.Procs)
		if many == mostProcs {
			return
		}
		want := impl.SeqVerdict(impl.PrgPrint(p))
		kinds[want.Kind]++
		for k := range 3 {
			more := clone(p)
			last := seqProgram(r, mostProcs-1+mostProcs*k).Procs[many]
			// It may call whom it likes, itself too.
			more.Procs = append(more.Procs, withinProcs(last, many+1))
			got := impl.SeqVerdict(impl.PrgPrint(more))
			if !sameVerdict(got, want) || !sameCerts(impl.SeqCerts(more), impl.SeqCerts(p)) || impl.SeqRounds(more) != impl.SeqRounds(p) {
				t.Fatalf("the verdict of %+v is %+v, and of %+v %+v", p, want, more, got)
			}
		}
	})
	if kinds[saysSafe] < 100 || kinds[saysAlarms] < 200 {
		t.Errorf("so often was each kind seen: %v", kinds)
	}
}

// withinProcs is a procedure that calls none but so many.
func withinProcs(c proc, procs int) proc {
	for pc, i := range c.Code {
		if i.Op == impl.OpCall {
			c.Code[pc].To = i.To % procs
		}
	}
	return c
}

// checkToldOf asks what promise 66 says of the verdict of papers.
func checkToldOf(t *testing.T, p prog, certs []cert, v verdict) {
	t.Helper()
	var all []site
	for k, part := range impl.GrfParts(p) {
		all = append(all, impl.CrtAlarms(p, part, certs[k])...)
	}
	if (v.Kind == saysSafe) != (len(all) == 0) || v.Kind != saysSafe && v.Kind != saysAlarms || v.Line != 0 || len(v.Sites) != len(all) {
		t.Fatalf("of papers with the alarms %v of %+v the verdict is %+v", all, p, v)
	}
	for k, at := range v.Sites {
		rising := k == 0 || v.Sites[k-1].Proc < at.Proc || v.Sites[k-1].Proc == at.Proc && v.Sites[k-1].Pc < at.Pc
		if !rising || !slices.Contains(all, at) {
			t.Fatalf("of papers with the alarms %v of %+v the verdict is %+v", all, p, v)
		}
	}
	checkVerdict(t, impl.PrgPrint(p), v)
}

// anyPapers are papers of all parts, right or not: of each of them on one of so many something comes.
func anyPapers(r *rand.Rand, p prog, oneOf int) []cert {
	var certs []cert
	for _, part := range impl.GrfParts(p) {
		c := startOf(p, part)
		if r.Intn(oneOf) == 0 {
			c = drawnCert(r, p, part)
		}
		certs = append(certs, c)
	}
	return certs
}

// areMixed says whether procedures of the second part stand among those of the first one.
func areMixed(parts [][]int) bool {
	return len(parts) > 1 && parts[1][0] < slices.Max(parts[0])
}

func TestPromise66AVerdictTellsWhatPapersSay(t *testing.T) {
	kinds, mixed := map[int]int{}, 0
	r := rand.New(rand.NewSource(66))
	see := func(p prog) {
		checkToldOf(t, p, impl.SeqCerts(p), impl.SeqVerdict(impl.PrgPrint(p)))
		for oneOf := 1; oneOf < 5; oneOf++ {
			certs := anyPapers(r, p, oneOf)
			v := impl.VrdOf(p, certs)
			checkToldOf(t, p, certs, v)
			kinds[v.Kind]++
			if areMixed(impl.GrfParts(p)) && v.Kind == saysAlarms {
				mixed++
			}
		}
	}
	eachSeq(800, func(_ *rand.Rand, p prog) { see(p) })
	for mask := 0; mask < 1<<16; mask += 61 {
		see(byMask(mostProcs, mask))
	}
	if kinds[saysSafe] < 1000 || kinds[saysAlarms] < 1000 || mixed < 100 {
		t.Errorf("so often was each kind seen: %v, and %d with alarms of parts that stand in each other", kinds, mixed)
	}
}

func TestPromise67AVerdictHasALineOrOneForEachPlace(t *testing.T) {
	ok := 0
	eachSeq(300, func(r *rand.Rand, p prog) {
		lines := impl.PrgPrint(p)
		wrong := with(lines, r.Intn(len(lines)), "ret e")
		few := []verdict{impl.SeqVerdict(lines), impl.SeqVerdict(wrong), safe(), {}, alarms(riskySites(lines)...)}
		for range 30 {
			few = append(few, drawnVerdict(r))
		}
		for _, v := range few {
			for _, text := range [][]string{lines, wrong} {
				checkVerdict(t, text, v)
				want := 0
				if impl.VrdOk(text, v) {
					ok++
					want = max(1, len(v.Sites))
				}
				if got := impl.VrdText(text, v); len(got) != want {
					t.Fatalf("VrdText(%q, %+v) = %q", text, v, got)
				}
			}
		}
	})
	if ok < 1000 {
		t.Errorf("only %d were ok", ok)
	}
}

// drawnVerdict is ok by few texts.
func drawnVerdict(r *rand.Rand) verdict {
	v := verdict{Kind: r.Intn(5), Line: max(0, r.Intn(6)-2)}
	for range max(0, r.Intn(6)-2) {
		v.Sites = append(v.Sites, spot(r.Intn(3), r.Intn(5)))
	}
	return v
}
