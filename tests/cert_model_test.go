package tests

import (
	"fmt"
	"math/rand"
	"slices"
	"strings"
	"testing"

	"loop.example/outwork/impl"
)

type (
	cert = impl.CrtCert
	site = impl.CrtSite
)

// paperOf reads a paper: a line for each step, with the bounds of a, b, c and d, and of the cells, or "-" where nothing comes; behind those of each procedure what it gives.
func paperOf(t *testing.T, lines ...string) cert {
	t.Helper()
	var c cert
	var states []state
	for _, line := range lines {
		if out, ends := strings.CutPrefix(line, "gives "); ends {
			c.States, c.Outs = append(c.States, states), append(c.Outs, sumIn(t, out))
			states = nil
			continue
		}
		states = append(states, stateIn(t, line))
	}
	return c
}

func sumIn(t *testing.T, word string) sum {
	t.Helper()
	if word == "-" {
		return sum{}
	}
	return sum{On: true, Out: boundsIn(t, word)}
}

func stateIn(t *testing.T, line string) state {
	t.Helper()
	if line == "-" {
		return state{}
	}
	var all []bounds
	for _, word := range strings.Split(line, " ") {
		all = append(all, boundsIn(t, word))
	}
	if len(all) != 5 {
		t.Fatalf("%q is no state", line)
	}
	return state{On: true, Vars: all[:4], Cells: all[4]}
}

// boundsIn takes a number for the bounds in which it is alone.
func boundsIn(t *testing.T, word string) bounds {
	t.Helper()
	if !strings.Contains(word, "..") {
		word += ".." + word
	}
	b, ok := impl.ItvRead(word)
	if !ok {
		t.Fatalf("%q is no bounds", word)
	}
	return b
}

// sameCert takes a list that is empty and one that is nil for the same.
func sameCert(a, b cert) bool {
	same := func(x, y []state) bool { return slices.EqualFunc(x, y, sameState) }
	return slices.EqualFunc(a.States, b.States, same) && slices.Equal(a.Outs, b.Outs)
}

// copiedCert shares nothing with a paper.
func copiedCert(c cert) cert {
	var out cert
	for _, states := range c.States {
		var all []state
		for _, s := range states {
			all = append(all, copiedState(s))
		}
		out.States = append(out.States, all)
	}
	out.Outs = append(out.Outs, c.Outs...)
	return out
}

// isPart is what is said of a part of a program that is ok.
func isPart(p prog, part []int) bool {
	rising := slices.Sorted(slices.Values(part))
	there := slices.ContainsFunc(part, func(k int) bool { return k < 0 || k >= len(p.Procs) })
	return len(part) > 0 && !there && slices.Equal(rising, part) && len(slices.Compact(rising)) == len(part)
}

// isCert is what CrtOk should tell by a program that is ok.
func isCert(p prog, part []int, c cert) bool {
	if !isPart(p, part) || len(c.States) != len(part) || len(c.Outs) != len(part) {
		return false
	}
	for k, states := range c.States {
		bad := func(s state) bool { return !isState(s) }
		if len(states) != len(p.Procs[part[k]].Code) || slices.ContainsFunc(states, bad) || !isSum(c.Outs[k]) {
			return false
		}
	}
	return true
}

// startOf is the paper on which nothing comes anywhere.
func startOf(p prog, part []int) cert {
	c := cert{Outs: make([]sum, len(part))}
	for _, k := range part {
		c.States = append(c.States, make([]state, len(p.Procs[k].Code)))
	}
	return c
}

// ownSums is what CrtSums should tell.
func ownSums(all []sum, part []int, c cert) []sum {
	out := append([]sum(nil), all...)
	for k, proc := range part {
		out[proc] = c.Outs[k]
	}
	return out
}

// flowOf is what CrtFlow should tell, found by asking for each place whatever leads there.
func flowOf(p prog, all []sum, part []int, c cert) cert {
	out := startOf(p, part)
	own := ownSums(all, part, c)
	for k, proc := range part {
		code := p.Procs[proc].Code
		for at := range code {
			if at == 0 {
				zero := itv(0, 0)
				out.States[k][0] = st(itv(p.Procs[proc].Lo, p.Procs[proc].Hi), zero, zero, zero, zero)
			}
			for pc, i := range code {
				for _, e := range edgesOf(p, own, i, pc, c.States[k][pc]) {
					if e.To == at {
						out.States[k][at] = byBounds(out.States[k][at], e.State, both)
					}
				}
			}
			out.Outs[k] = bySum(out.Outs[k], outOf(code[at], c.States[k][at]), both)
		}
	}
	return out
}

func bySum(a, b sum, by func(a, b bounds) bounds) sum {
	switch {
	case a.On && b.On:
		return sum{On: true, Out: by(a.Out, b.Out)}
	case a.On:
		return a
	}
	return b
}

// byPlace is what comes of two papers, state by state, and sum by sum.
func byPlace(a, b cert, by func(a, b bounds) bounds) cert {
	out := copiedCert(a)
	for k, states := range out.States {
		for pc := range states {
			states[pc] = byBounds(a.States[k][pc], b.States[k][pc], by)
		}
		out.Outs[k] = bySum(a.Outs[k], b.Outs[k], by)
	}
	return out
}

// isOnIt is what CrtIn should tell of papers that are ok.
func isOnIt(a, b cert) bool {
	for k, states := range a.States {
		for pc, s := range states {
			if !isWithin(s, b.States[k][pc]) {
				return false
			}
		}
		x, y := a.Outs[k], b.Outs[k]
		if x.On && (!y.On || x.Out.Lo < y.Out.Lo || x.Out.Hi > y.Out.Hi) {
			return false
		}
	}
	return true
}

// alarmsOf is what CrtAlarms should tell.
func alarmsOf(p prog, part []int, c cert) []site {
	var out []site
	for k, proc := range part {
		for pc, i := range p.Procs[proc].Code {
			if failsIn(p, i, c.States[k][pc]) {
				out = append(out, site{Proc: proc, Pc: pc})
			}
		}
	}
	return out
}

// papers is what is asked of two papers of one part, with sums; all of that is ok.
type papers struct {
	p    prog
	all  []sum
	part []int
	a, b cert
}

func (w papers) String() string {
	return fmt.Sprintf("of the part %v of %+v, with the sums %+v", w.part, w.p, w.all)
}

func mustBeCert(t *testing.T, w papers, name string, got, want cert) {
	t.Helper()
	if !sameCert(got, want) {
		t.Fatalf("%v %s is %+v, not %+v, with %+v and %+v", w, name, got, want, w.a, w.b)
	}
}

// checkPapers asks everything of two papers.
func checkPapers(t *testing.T, w papers) {
	t.Helper()
	p, part := w.p, w.part
	if !impl.CrtOk(p, part, w.a) || !impl.CrtOk(p, part, w.b) {
		t.Fatalf("%v %+v or %+v is not ok", w, w.a, w.b)
	}
	mustBeCert(t, w, "CrtStart", impl.CrtStart(p, part), startOf(p, part))
	flow := flowOf(p, w.all, part, w.a)
	mustBeCert(t, w, "CrtFlow", impl.CrtFlow(p, w.all, part, w.a), flow)
	mustBeCert(t, w, "CrtJoin", impl.CrtJoin(p, part, w.a, w.b), byPlace(w.a, w.b, both))
	mustBeCert(t, w, "CrtWide", impl.CrtWide(p, part, w.a, w.b), byPlace(w.a, w.b, grown))
	if got, want := impl.CrtSums(p, w.all, part, w.a), ownSums(w.all, part, w.a); !slices.Equal(got, want) {
		t.Fatalf("%v CrtSums is %+v, not %+v", w, got, want)
	}
	if got := impl.CrtIn(p, part, w.a, w.b); got != isOnIt(w.a, w.b) {
		t.Fatalf("%v %+v is within %+v: %v", w, w.a, w.b, got)
	}
	if got := impl.CrtPost(p, w.all, part, w.a); got != isOnIt(flow, w.a) {
		t.Fatalf("%v %+v is right: %v", w, w.a, got)
	}
	if got, want := impl.CrtAlarms(p, part, w.a), alarmsOf(p, part, w.a); !slices.Equal(got, want) {
		t.Fatalf("%v CrtAlarms of %+v is %v, not %v", w, w.a, got, want)
	}
}

// anyParts are all parts of so many procedures.
func anyParts(many int) [][]int {
	var out [][]int
	for mask := 1; mask < 1<<many; mask++ {
		var part []int
		for k := range many {
			if mask>>k&1 == 1 {
				part = append(part, k)
			}
		}
		out = append(out, part)
	}
	return out
}

// drawnCert has states and sums of its own, whatever the program does.
func drawnCert(r *rand.Rand, p prog, part []int) cert {
	c := startOf(p, part)
	some := 1 + r.Intn(4)
	for _, states := range c.States {
		for pc := range states {
			if r.Intn(4) < some {
				states[pc] = drawnState(r)
			}
		}
	}
	c.Outs = drawnSums(r, p)[:len(part)]
	return c
}

// lessCert is a paper that is within another one.
func lessCert(r *rand.Rand, c cert) cert {
	out := copiedCert(c)
	for k, states := range out.States {
		for pc := range states {
			if r.Intn(2) == 0 {
				states[pc] = within(r, states[pc])
			}
		}
		if o := c.Outs[k]; o.On && r.Intn(2) == 0 {
			out.Outs[k] = []sum{{}, gives(o.Out.Lo, o.Out.Lo), gives(o.Out.Hi, o.Out.Hi)}[r.Intn(3)]
		}
	}
	return out
}

// fullCert is the greatest paper: everything comes everywhere.
func fullCert(p prog, part []int) cert {
	c := startOf(p, part)
	all := itv(least, greatest)
	for k, states := range c.States {
		for pc := range states {
			states[pc] = st(all, all, all, all, all)
		}
		c.Outs[k] = gives(least, greatest)
	}
	return c
}

// rightCert is a paper with all that another one has, grown until nothing comes of it any more that is not on it.
func rightCert(p prog, all []sum, part []int, c cert) cert {
	for {
		flow := flowOf(p, all, part, c)
		if isOnIt(flow, c) {
			return c
		}
		c = byPlace(c, flow, grown)
	}
}

// eachDrawn sees for so many programs drawn a part of each, with sums.
func eachDrawn(many int, see func(r *rand.Rand, p prog, all []sum, part []int)) {
	r := rand.New(rand.NewSource(8))
	for k := range many {
		procs := 1 + k%mostProcs
		p := lively(r, procs)
		if k%7 == 0 {
			p = drawn(r, procs, mostSteps)
		}
		parts := anyParts(procs)
		see(r, p, drawnSums(r, p), parts[r.Intn(len(parts))])
	}
}

// Two papers drawn, one and what is within it, and one and what comes of it.
func TestEachPaper(t *testing.T) {
	right, wrong := 0, 0
	eachDrawn(600, func(r *rand.Rand, p prog, all []sum, part []int) {
		a := drawnCert(r, p, part)
		good := rightCert(p, all, part, lessCert(r, a))
		for _, two := range [][2]cert{
			{a, drawnCert(r, p, part)}, {a, lessCert(r, a)}, {lessCert(r, a), a}, {a, a}, {flowOf(p, all, part, a), a},
			{good, a}, {lessCert(r, good), good}, {startOf(p, part), a}, {fullCert(p, part), a},
		} {
			checkPapers(t, papers{p, all, part, two[0], two[1]})
			if impl.CrtPost(p, all, part, two[0]) {
				right++
			} else {
				wrong++
			}
		}
	})
	if right < 500 || wrong < 500 {
		t.Errorf("%d papers were right, and %d were not", right, wrong)
	}
}
