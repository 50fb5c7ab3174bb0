package tests

import (
	"fmt"
	"math/rand"
	"slices"
	"strings"
	"testing"

	"loop.example/outwork/impl"
)

type verdict = impl.VrdVerdict

// Which kinds of verdicts there are is written out, so that a constant that was turned is seen.
const (
	saysWrong  = 1
	saysSafe   = 2
	saysAlarms = 3
)

func spot(proc, pc int) site {
	return site{Proc: proc, Pc: pc}
}

func wrongAt(line int) verdict {
	return verdict{Kind: saysWrong, Line: line}
}

func safe() verdict {
	return verdict{Kind: saysSafe}
}

func alarms(sites ...site) verdict {
	return verdict{Kind: saysAlarms, Sites: sites}
}

// sameVerdict takes a list that is empty and one that is nil for the same.
func sameVerdict(a, b verdict) bool {
	return a.Kind == b.Kind && a.Line == b.Line && slices.Equal(a.Sites, b.Sites)
}

func sameCerts(a, b []cert) bool {
	return slices.EqualFunc(a, b, sameCert)
}

// seqOf is what SeqCerts and SeqRounds should tell of a program that is ok: part behind part, each round behind round.
func seqOf(p prog) ([]cert, int) {
	w := listsOf(p)
	certs, rounds := make([]cert, len(w.parts)), 0
	all := make([]sum, len(p.Procs))
	for _, k := range w.order {
		e := engine{Phase: grows, Cert: startOf(p, w.parts[k])}
		for ; e.Phase != isDone; rounds++ {
			e = engineStepped(p, all, w.parts[k], e)
		}
		certs[k] = e.Cert
		all = ownSums(all, w.parts[k], e.Cert)
	}
	return certs, rounds
}

// areCerts says of a program that is ok whether there is one ok paper for each part.
func areCerts(p prog, certs []cert) bool {
	parts := listsOf(p).parts
	for k := range certs {
		if k >= len(parts) || !isCert(p, parts[k], certs[k]) {
			return false
		}
	}
	return len(certs) == len(parts)
}

// verdictOf is what VrdOf should tell of a program that is ok, asked procedure by procedure, whatever its part.
func verdictOf(p prog, certs []cert) verdict {
	if !areCerts(p, certs) {
		return verdict{}
	}
	v := safe()
	for proc, c := range p.Procs {
		for k, part := range listsOf(p).parts {
			at := slices.Index(part, proc)
			for pc, i := range c.Code {
				if at >= 0 && failsIn(p, i, certs[k].States[at][pc]) {
					v = alarms(append(v.Sites, spot(proc, pc))...)
				}
			}
		}
	}
	return v
}

// riskySites are the places of a text that is right at which a step may fail by itself, by the words with which their lines begin.
func riskySites(lines []string) []site {
	var out []site
	proc, pc := -1, 0
	for _, s := range lines[1:] {
		word, _, _ := strings.Cut(s, " ")
		if word == "proc" {
			proc, pc = proc+1, 0
			continue
		}
		if slices.Contains([]string{"div", "load", "store", "call", "assert"}, word) {
			out = append(out, spot(proc, pc))
		}
		pc++
	}
	return out
}

// isVerdict is what VrdOk should tell.
func isVerdict(lines []string, v verdict) bool {
	if wrong := firstWrong(lines); wrong != 0 {
		return sameVerdict(v, wrongAt(wrong))
	}
	if v.Kind != saysAlarms || len(v.Sites) == 0 {
		return sameVerdict(v, safe())
	}
	risky, from := riskySites(lines), 0
	for _, at := range v.Sites {
		// Each is behind the one ahead of it, or it is not found.
		k := slices.Index(risky[from:], at)
		if k < 0 {
			return false
		}
		from += k + 1
	}
	return v.Line == 0
}

// linesFor is what VrdText should tell of a verdict that is ok.
func linesFor(v verdict) []string {
	var out []string
	switch v.Kind {
	case saysWrong:
		out = append(out, fmt.Sprintf("wrong %d", v.Line))
	case saysSafe:
		out = append(out, "safe")
	case saysAlarms:
		for _, at := range v.Sites {
			out = append(out, fmt.Sprintf("may fail %d %d", at.Proc, at.Pc))
		}
	}
	return out
}

// checkVerdict asks VrdOk and VrdText of a verdict, whether it is ok or not.
func checkVerdict(t *testing.T, lines []string, v verdict) {
	t.Helper()
	is := isVerdict(lines, v)
	if got := impl.VrdOk(lines, v); got != is {
		t.Fatalf("VrdOk(%q, %+v) is %v", lines, v, got)
	}
	var want []string
	if is {
		want = linesFor(v)
	}
	if got := impl.VrdText(lines, v); !slices.Equal(got, want) {
		t.Fatalf("VrdText(%q, %+v) = %q, not %q", lines, v, got, want)
	}
}

// checkSeq asks all that one machine tells of a program that is ok.
func checkSeq(t *testing.T, p prog) {
	t.Helper()
	certs, rounds := seqOf(p)
	if got := impl.SeqCerts(p); !sameCerts(got, certs) {
		t.Fatalf("SeqCerts(%+v) = %+v, not %+v", p, got, certs)
	}
	if got := impl.SeqRounds(p); got != rounds {
		t.Fatalf("SeqRounds(%+v) = %d, not %d", p, got, rounds)
	}
	lines, want := linesOf(p), verdictOf(p, certs)
	if got := impl.VrdOf(p, certs); !sameVerdict(got, want) {
		t.Fatalf("VrdOf(%+v) = %+v, not %+v", p, got, want)
	}
	if got := impl.SeqVerdict(lines); !sameVerdict(got, want) {
		t.Fatalf("SeqVerdict(%q) = %+v, not %+v", lines, got, want)
	}
	checkVerdict(t, lines, want)
}

// bodies are steps of which runs go far: they count, call themselves and others, and use cells. N stands for a small number, and P for a procedure.
func bodies() [][]string {
	return [][]string{
		{"set c N", "if c <= b 5", "set d 1", "add b b d", "jump 1", "assert b = c", "ret b"},
		{"set c 1", "if a < c 5", "sub b a c", "call b P b", "add a b c", "ret a"},
		{"any b 0 N", "store b a", "any c 0 3", "load d c", "set b 1", "add d d b", "div d a d", "ret d"},
		{"call b P a", "call c P b", "sub d b c", "assert d <= b", "ret d"},
		{"set b N", "store a b", "any c 0 3", "load d c", "div d b d", "ret d"},
		{"any b -3 N", "if b < a 4", "mul a a b", "jump 5", "call a P b", "ret a"},
		{"set b N", "add a a b", "ret a"},
		{"call b P a", "if b != a 3", "ret b", "div c a b", "call d P c", "ret d"},
		{"set b N", "if a < b 4", "sub a a b", "jump 1", "store a b", "load c a", "assert c = b", "ret c"},
		{"any d -N N", "add a a d", "call b P a", "jump 0"},
		{"ret a"},
	}
}

// bodyOf is one of bodies; of one that calls it is a procedure behind its own that it calls, as long as there is one and it is forward.
func bodyOf(r *rand.Rand, k, procs int, forward bool) []ins {
	body := bodies()[r.Intn(len(bodies()))]
	for forward && k < procs-1 && !strings.Contains(strings.Join(body, " "), "P") {
		body = bodies()[r.Intn(len(bodies()))]
	}
	var code []ins
	for _, line := range body {
		called := r.Intn(procs)
		if forward && k < procs-1 {
			called = k + 1 + r.Intn(procs-1-k)
		}
		line = strings.ReplaceAll(line, "N", fmt.Sprint(1+r.Intn(6)))
		i, ok := impl.InsRead(strings.ReplaceAll(line, "P", fmt.Sprint(called)), procs, len(body))
		if !ok {
			panic(line)
		}
		code = append(code, i)
	}
	return code
}

// busy is a program of some of bodies, in which calls may lead anywhere, or as good as never back.
func busy(r *rand.Rand, procs int, forward bool) prog {
	p := prog{}
	for k := range procs {
		p.Procs = append(p.Procs, proc{Lo: -r.Intn(5), Hi: r.Intn(9), Code: bodyOf(r, k, procs, forward)})
	}
	return p
}

// seqProgram is drawn of one of the kinds that there are.
func seqProgram(r *rand.Rand, k int) prog {
	procs := 1 + k%mostProcs
	switch k / mostProcs % 6 {
	case 0:
		return lively(r, procs)
	case 1:
		return drawn(r, procs, mostSteps)
	case 2:
		return restless(r, procs)
	case 3:
		return busy(r, procs, false)
	}
	return busy(r, procs, true)
}

// eachSeq sees programs drawn, always the same.
func eachSeq(many int, see func(r *rand.Rand, p prog)) {
	r := rand.New(rand.NewSource(10))
	for k := range many {
		see(r, seqProgram(r, k))
	}
}

// partSums are what the parts' papers say that their procedures give; all others give nothing.
func partSums(p prog, parts [][]int, certs []cert) []sum {
	all := make([]sum, len(p.Procs))
	for k, part := range parts {
		all = ownSums(all, part, certs[k])
	}
	return all
}

func TestWhatOneMachineTells(t *testing.T) {
	kinds, parts := map[int]int{}, map[int]int{}
	eachSeq(2000, func(r *rand.Rand, p prog) {
		checkSeq(t, p)
		kinds[impl.SeqVerdict(linesOf(p)).Kind]++
		parts[len(impl.SeqCerts(p))]++
	})
	if kinds[saysSafe] < 100 || kinds[saysAlarms] < 300 {
		t.Errorf("so often was each kind seen: %v", kinds)
	}
	for many := 1; many <= mostProcs; many++ {
		if parts[many] < 20 {
			t.Errorf("so often were so many parts seen: %v", parts)
		}
	}
}

// Whoever calls whom, of three procedures, and of some of four.
func TestOneMachineOfEachGraph(t *testing.T) {
	eachGraph(1009, func(p prog) {
		if len(p.Procs) == 3 || len(p.Procs) == mostProcs {
			checkSeq(t, p)
		}
	})
}
