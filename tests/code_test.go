package tests

import (
	"fmt"
	"math"
	"reflect"
	"testing"

	"loop.example/outwork/impl"
)

// How much there may be is written out, so that a constant that was turned is seen.
const (
	mostProcs = 4
	mostSteps = 10
	mostLine  = 60
)

type (
	ins  = impl.InsIns
	proc = impl.PrcProc
	prog = impl.PrgProg
)

// allOps are written out, by their numbers.
func allOps() []int {
	return []int{1, 2, 3, 4, 5, 6, 7, 8, 9, 10, 11, 12}
}

// noOps are numbers of which none is an Op.
func noOps() []int {
	return []int{math.MinInt, -65535, -12, -1, 0, 13, 14, 100, 65537, math.MaxInt}
}

// haves is the document's table: what a step of an Op has, R for Rel, and T for To.
func haves(op int) string {
	switch op {
	case 1, 2, 3, 4:
		return "DAB"
	case 5:
		return "DLH"
	case 6:
		return "DA"
	case 7:
		return "AB"
	case 8:
		return "RABT"
	case 9:
		return "T"
	case 10:
		return "DAT"
	case 11:
		return "RAB"
	case 12:
		return "A"
	}
	return ""
}

func hasField(op int, field byte) bool {
	for _, f := range []byte(haves(op)) {
		if f == field {
			return true
		}
	}
	return false
}

// isOk is what InsOk should tell, field by field of the document's table.
func isOk(i ins, procs, size int) bool {
	if haves(i.Op) == "" {
		return false
	}
	tos := size
	if i.Op == impl.OpCall {
		tos = procs
	}
	for _, f := range []struct {
		name        byte
		n, low, top int
	}{
		{'D', i.D, 0, 3}, {'A', i.A, 0, 3}, {'B', i.B, 0, 3}, {'R', i.Rel, 1, 4},
		{'L', i.Lo, least, greatest}, {'H', i.Hi, least, greatest}, {'T', i.To, 0, max(tos, 0) - 1},
	} {
		if !hasField(i.Op, f.name) && f.n != 0 {
			return false
		}
		if hasField(i.Op, f.name) && (f.n < f.low || f.n > f.top) {
			return false
		}
	}
	return i.Lo <= i.Hi
}

// spread is each way to take one of a list for each field that an Op has, the others 0.
func spread(op int, vars, rels, tos []int, of []bounds) []ins {
	out := []ins{{Op: op}}
	each := func(is bool, values []int, set func(*ins, int)) {
		if !is {
			return
		}
		var more []ins
		for _, i := range out {
			for _, v := range values {
				next := i
				set(&next, v)
				more = append(more, next)
			}
		}
		out = more
	}
	each(hasField(op, 'D'), vars, func(i *ins, v int) { i.D = v })
	each(hasField(op, 'A'), vars, func(i *ins, v int) { i.A = v })
	each(hasField(op, 'B'), vars, func(i *ins, v int) { i.B = v })
	each(hasField(op, 'R'), rels, func(i *ins, v int) { i.Rel = v })
	each(hasField(op, 'T'), tos, func(i *ins, v int) { i.To = v })
	places := make([]int, len(of))
	for k := range of {
		places[k] = k
	}
	each(hasField(op, 'L'), places, func(i *ins, k int) { i.Lo, i.Hi = of[k].Lo, of[k].Hi })
	return out
}

func upTo(n int) []int {
	var out []int
	for k := range n {
		out = append(out, k)
	}
	return out
}

// okSteps are all steps that are ok among so many procedures, in one of so many steps, but for bounds, of which there are some.
func okSteps(procs, size int) []ins {
	of := boundsOf(least, least+1, -12, -1, 0, 1, 9, 10, greatest-1, greatest)
	var out []ins
	for _, op := range allOps() {
		tos := upTo(size)
		if op == impl.OpCall {
			tos = upTo(procs)
		}
		out = append(out, spread(op, upTo(4), []int{1, 2, 3, 4}, tos, of)...)
	}
	return out
}

func checkOk(t *testing.T, i ins, procs, size int) {
	t.Helper()
	if got := impl.InsOk(i, procs, size); got != isOk(i, procs, size) {
		t.Fatalf("InsOk(%+v, %d, %d) = %v", i, procs, size, got)
	}
}

func TestCodConstants(t *testing.T) {
	got := []int{
		impl.OpAdd, impl.OpSub, impl.OpMul, impl.OpDiv, impl.OpAny, impl.OpLoad, impl.OpStore,
		impl.OpIf, impl.OpJump, impl.OpCall, impl.OpAssert, impl.OpRet,
		impl.CodVars, impl.CodCells, impl.CodMaxPrcs, impl.CodMaxIns, impl.CodMaxLine,
	}
	want := append(allOps(), 4, 4, mostProcs, mostSteps, mostLine)
	if !reflect.DeepEqual(got, want) {
		t.Errorf("the constants are %v, not %v", got, want)
	}
}

func TestInsOkAtBothEndsOfAllThatAStepHas(t *testing.T) {
	vars := []int{math.MinInt, -1, 0, 1, 3, 4, math.MaxInt}
	rels := []int{math.MinInt, -1, 0, 1, 2, 3, 4, 5, 65537, math.MaxInt}
	tos := []int{math.MinInt, -1, 0, 1, 2, 3, 4, 8, 9, 10, 11, 65536, math.MaxInt}
	of := append(badBounds(), boundsOf(least, -1, 0, 1, greatest)...)
	for _, op := range append(allOps(), noOps()...) {
		for _, i := range spread(op, vars, rels, tos, of) {
			checkOk(t, i, mostProcs, mostSteps)
			checkOk(t, i, 1, 1)
			checkOk(t, i, 3, 9)
		}
	}
}

// Whatever of it is set, alone or beside others: a step that is ok is not ok with it any more, if it does not have that.
func TestInsOkOfWhatAStepDoesNotHave(t *testing.T) {
	sets := map[byte]func(*ins, int){
		'D': func(i *ins, v int) { i.D = v }, 'A': func(i *ins, v int) { i.A = v }, 'B': func(i *ins, v int) { i.B = v },
		'R': func(i *ins, v int) { i.Rel = v }, 'T': func(i *ins, v int) { i.To = v },
		'L': func(i *ins, v int) { i.Lo = v }, 'H': func(i *ins, v int) { i.Hi = v },
	}
	for _, i := range okSteps(mostProcs, mostSteps) {
		for field, set := range sets {
			for _, v := range []int{math.MinInt, -1, 1, 2, math.MaxInt} {
				bent := i
				set(&bent, v)
				if !hasField(i.Op, field) && impl.InsOk(bent, mostProcs, mostSteps) {
					t.Fatalf("InsOk(%+v), with %c", bent, field)
				}
				checkOk(t, bent, mostProcs, mostSteps)
			}
		}
		if !hasField(i.Op, 'L') {
			both := i
			both.Lo, both.Hi = -1, 1
			checkOk(t, both, mostProcs, mostSteps)
		}
	}
}

// counts are how many procedures or steps there may be said to be, few, none, fewer and very many.
func counts() []int {
	return []int{math.MinInt, -65536, -1, 0, 1, 2, 3, 4, 5, 9, 10, 11, 1000, greatest, greatest + 1, 65536, math.MaxInt}
}

func TestInsOkAmongSoMany(t *testing.T) {
	for _, procs := range counts() {
		for _, size := range counts() {
			tos := []int{math.MinInt, -1, 0, 1, procs - 1, procs, size - 1, size, math.MaxInt}
			for _, op := range append(allOps(), 0, 13) {
				for _, i := range spread(op, []int{0, 3}, []int{1, 4}, tos, []bounds{itv(0, 0), itv(-1, 5)}) {
					checkOk(t, i, procs, size)
				}
			}
		}
	}
}

func TestInsOkAtTheLastPlaceAndOneBeyond(t *testing.T) {
	for _, c := range []struct {
		i    ins
		want bool
	}{
		{ins{Op: impl.OpJump, To: 6}, true},
		{ins{Op: impl.OpJump, To: 7}, false},
		{ins{Op: impl.OpIf, Rel: 1, To: 6}, true},
		{ins{Op: impl.OpIf, Rel: 1, To: 7}, false},
		{ins{Op: impl.OpCall, To: 2}, true},
		{ins{Op: impl.OpCall, To: 3}, false},
		{ins{Op: impl.OpCall, To: 6}, false},
		{ins{Op: impl.OpCall, To: -1}, false},
		{ins{Op: impl.OpAny, Lo: 5, Hi: 5}, true},
		{ins{Op: impl.OpAny, Lo: 5, Hi: 4}, false},
		{ins{Op: impl.OpAny, Lo: least, Hi: greatest}, true},
		{ins{Op: impl.OpAny, Lo: least - 1, Hi: 0}, false},
		{ins{Op: impl.OpAny, Hi: greatest + 1}, false},
		{ins{Op: impl.OpAny}, true},
		{ins{}, false},
	} {
		if got := impl.InsOk(c.i, 3, 7); got != c.want {
			t.Errorf("InsOk(%+v, 3, 7) = %v", c.i, got)
		}
	}
}

// places are all from which a step may lead on, and others.
func places() []int {
	return []int{math.MinInt, -65536, -2, -1, 0, 1, 2, 3, 4, 5, 6, 7, 8, 9, 10, 11, 65536, math.MaxInt - 1, math.MaxInt}
}

// nextOf is what InsNext should tell.
func nextOf(i ins, pc int) []int {
	if !isOk(i, mostProcs, mostSteps) || pc < 0 || pc > 9 || i.Op == impl.OpRet {
		return nil
	}
	may := map[int]int{}
	if i.Op == impl.OpIf || i.Op == impl.OpJump {
		may[i.To] = 1
	}
	if i.Op != impl.OpJump {
		may[pc+1] = 1
	}
	var out []int
	for n := 0; n <= mostSteps; n++ {
		if may[n] == 1 {
			out = append(out, n)
		}
	}
	return out
}

func sameInts(a, b []int) bool {
	return len(a) == 0 && len(b) == 0 || reflect.DeepEqual(a, b)
}

func checkNext(t *testing.T, i ins, pc int) {
	t.Helper()
	if got, want := impl.InsNext(i, pc), nextOf(i, pc); !sameInts(got, want) {
		t.Fatalf("InsNext(%+v, %d) = %v, not %v", i, pc, got, want)
	}
}

// checkLeads asks what the promise says, and no more.
func checkLeads(t *testing.T, i ins, pc int) {
	t.Helper()
	next := impl.InsNext(i, pc)
	if len(next) > 2 || len(next) == 2 && next[0] >= next[1] {
		t.Fatalf("InsNext(%+v, %d) = %v", i, pc, next)
	}
	if (len(next) == 0) != (i.Op == impl.OpRet) {
		t.Fatalf("InsNext(%+v, %d) = %v", i, pc, next)
	}
	if i.Op <= impl.OpDiv && (len(next) != 1 || next[0] != pc+1) {
		t.Fatalf("InsNext(%+v, %d) = %v, of one that reckons", i, pc, next)
	}
	for _, n := range next {
		if n != pc+1 && (n != i.To || !hasField(i.Op, 'T') || i.Op == impl.OpCall) {
			t.Fatalf("InsNext(%+v, %d) = %v, where it does not say", i, pc, next)
		}
	}
}

func TestPromise28AStepLeadsOnToTheNextPlaceOrWhereItSays(t *testing.T) {
	for _, i := range okSteps(mostProcs, mostSteps) {
		for _, pc := range places() {
			checkNext(t, i, pc)
			if pc >= 0 && pc <= 9 {
				checkLeads(t, i, pc)
			}
		}
	}
}

func TestInsNextAtEdges(t *testing.T) {
	for _, c := range []struct {
		i    ins
		pc   int
		want []int
	}{
		{ins{Op: impl.OpAdd}, 0, []int{1}},
		{ins{Op: impl.OpAdd}, 9, []int{10}},
		{ins{Op: impl.OpAdd}, 10, nil},
		{ins{Op: impl.OpAdd}, -1, nil},
		{ins{Op: impl.OpIf, Rel: 2, To: 5}, 4, []int{5}},
		{ins{Op: impl.OpIf, Rel: 2, To: 4}, 4, []int{4, 5}},
		{ins{Op: impl.OpIf, Rel: 2, To: 0}, 4, []int{0, 5}},
		{ins{Op: impl.OpIf, Rel: 2, To: 6}, 4, []int{5, 6}},
		{ins{Op: impl.OpIf, Rel: 2, To: 9}, 9, []int{9, 10}},
		{ins{Op: impl.OpIf, Rel: 2, To: 9}, 8, []int{9}},
		{ins{Op: impl.OpIf, Rel: 2, To: 10}, 9, nil},
		{ins{Op: impl.OpIf, To: 5}, 4, nil},
		{ins{Op: impl.OpJump, To: 4}, 4, []int{4}},
		{ins{Op: impl.OpJump, To: 9}, 0, []int{9}},
		{ins{Op: impl.OpJump, To: 10}, 0, nil},
		{ins{Op: impl.OpJump, To: 0}, 10, nil},
		{ins{Op: impl.OpCall, To: 3}, 6, []int{7}},
		{ins{Op: impl.OpCall, To: 4}, 6, nil},
		{ins{Op: impl.OpAssert, Rel: 4}, 6, []int{7}},
		{ins{Op: impl.OpAssert, Rel: 5}, 6, nil},
		{ins{Op: impl.OpRet}, 3, nil},
		{ins{Op: impl.OpRet, D: 1}, 3, nil},
		{ins{}, 3, nil},
	} {
		if got := impl.InsNext(c.i, c.pc); !sameInts(got, c.want) {
			t.Errorf("InsNext(%+v, %d) = %v, not %v", c.i, c.pc, got, c.want)
		}
	}
}

func TestInsNextOfStepsThatAreNotOk(t *testing.T) {
	vars := []int{-1, 0, 3, 4}
	for _, op := range append(allOps(), noOps()...) {
		for _, i := range spread(op, vars, []int{0, 1, 4, 5}, []int{-1, 0, 3, 4, 9, 10}, []bounds{itv(0, 0), itv(1, 0), itv(0, greatest+1)}) {
			for _, pc := range []int{-1, 0, 4, 9, 10} {
				checkNext(t, i, pc)
				i.Hi++
				checkNext(t, i, pc)
				i.Hi--
			}
		}
	}
}

func TestInsNextIsNewEachTime(t *testing.T) {
	for _, i := range []ins{{Op: impl.OpAdd}, {Op: impl.OpJump, To: 3}, {Op: impl.OpIf, Rel: 1, To: 3}} {
		first := impl.InsNext(i, 5)
		for k := range first {
			first[k] = -7
		}
		checkNext(t, i, 5)
	}
}

func TestInsRisks(t *testing.T) {
	for _, op := range append(allOps(), noOps()...) {
		want := op == 4 || op == 6 || op == 7 || op == 10 || op == 11
		if impl.InsRisks(op) != want {
			t.Errorf("InsRisks(%d) = %v", op, !want)
		}
	}
}

// program has procedures of these sizes; each step differs from all others, so that one at a wrong place is seen.
func program(sizes ...int) prog {
	p := prog{}
	for k, size := range sizes {
		c := proc{Lo: -k, Hi: 3 * k}
		for pc := range size {
			c.Code = append(c.Code, ins{Op: impl.OpAny, D: pc % 4, Lo: 100 * k, Hi: 100*k + pc})
		}
		if size > 0 {
			c.Code[size-1] = ins{Op: impl.OpRet, A: k % 4}
		}
		p.Procs = append(p.Procs, c)
	}
	return p
}

// somePrograms are ok, of 1 to mostProcs procedures with 1 to mostSteps steps each.
func somePrograms() []prog {
	var out []prog
	for a := 1; a <= mostSteps; a++ {
		out = append(out, program(a))
		for b := 1; b <= mostSteps; b++ {
			out = append(out, program(a, b), program(b, 1, a), program(a, mostSteps, 1, b))
		}
	}
	return append(out, program(10, 10, 10, 10), program(1, 1, 1, 1))
}

func clone(p prog) prog {
	out := prog{}
	for _, c := range p.Procs {
		out.Procs = append(out.Procs, proc{Lo: c.Lo, Hi: c.Hi, Code: append([]ins{}, c.Code...)})
	}
	return out
}

func mustBeOk(t *testing.T, p prog) {
	t.Helper()
	if !impl.PrgOk(p) {
		t.Fatalf("PrgOk(%+v) is false", p)
	}
}

func mustNotBeOk(t *testing.T, p prog) {
	t.Helper()
	if impl.PrgOk(p) {
		t.Fatalf("PrgOk(%+v)", p)
	}
	if lines := impl.PrgPrint(p); len(lines) != 0 {
		t.Fatalf("PrgPrint(%+v) = %q", p, lines)
	}
}

func TestPrgOkBySizes(t *testing.T) {
	for _, p := range somePrograms() {
		mustBeOk(t, p)
	}
	for _, p := range []prog{
		{}, {Procs: []proc{}}, program(0), program(11), program(12), program(1000),
		program(1, 1, 1, 1, 1), program(10, 10, 10, 10, 10), program(make([]int, 5)...), program(make([]int, 1000)...),
		program(0, 3), program(3, 0), program(3, 3, 0, 3), program(3, 3, 3, 0), program(11, 3), program(3, 11), program(3, 3, 3, 11),
		{Procs: make([]proc, 1)}, {Procs: make([]proc, 4)},
	} {
		mustNotBeOk(t, p)
	}
}

func TestPrgOkByBounds(t *testing.T) {
	for k := range 3 {
		for _, of := range append(badBounds(), boundsOf(least, -1, 0, 1, greatest)...) {
			p := program(2, 3, 4)
			p.Procs[k].Lo, p.Procs[k].Hi = of.Lo, of.Hi
			if isBad(of) {
				mustNotBeOk(t, p)
			} else {
				mustBeOk(t, p)
			}
		}
	}
}

// At each place of each procedure, by how many procedures there are, and how many steps that one has.
func TestPrgOkByEachStep(t *testing.T) {
	base := program(3, 5, 2)
	for _, op := range append(allOps(), 0, 13) {
		for _, i := range spread(op, []int{0, 3, 4}, []int{0, 1, 4, 5}, []int{-1, 0, 1, 2, 3, 4, 5}, []bounds{itv(3, 3), itv(0, 9), itv(2, 1)}) {
			for k, c := range base.Procs {
				for pc := range c.Code {
					p := clone(base)
					p.Procs[k].Code[pc] = i
					want := isOk(i, 3, len(c.Code)) && (pc < len(c.Code)-1 || op == impl.OpRet || op == impl.OpJump)
					if impl.PrgOk(p) != want {
						t.Fatalf("PrgOk is %v with %+v at %d of %d", !want, i, pc, k)
					}
				}
			}
		}
	}
}

func TestPrgOkByTheLastStep(t *testing.T) {
	for _, i := range okSteps(1, 1) {
		p := prog{Procs: []proc{{Hi: 3, Code: []ins{i}}}}
		if want := i.Op == impl.OpRet || i.Op == impl.OpJump; impl.PrgOk(p) != want {
			t.Fatalf("PrgOk(%+v) = %v", p, !want)
		}
	}
}

// checkPlaces asks of each place, and of others, whether a step stands there, and which.
func checkPlaces(t *testing.T, p prog) {
	t.Helper()
	found := 0
	numbers := append(counts(), -2, 6, 7, 8, 12)
	for _, k := range numbers {
		for _, pc := range numbers {
			want, is := ins{}, false
			if k >= 0 && k < len(p.Procs) && pc >= 0 && pc < len(p.Procs[k].Code) {
				want, is = p.Procs[k].Code[pc], true
				found++
			}
			if got, ok := impl.PrgAt(p, k, pc); got != want || ok != is {
				t.Fatalf("PrgAt(%+v, %d, %d) = %+v, %v", p, k, pc, got, ok)
			}
		}
	}
	if impl.PrgSize(p) != found {
		t.Fatalf("PrgSize(%+v) = %d, not %d", p, impl.PrgSize(p), found)
	}
}

func TestPromise29EachStepStandsAtItsPlace(t *testing.T) {
	for _, p := range somePrograms() {
		checkPlaces(t, p)
	}
}

// These two are of any program, and tell the steps as they are.
func TestPlacesOfProgramsThatAreNotOk(t *testing.T) {
	bent := program(2, 3)
	bent.Procs[1].Code[1] = ins{Op: 99, D: -5, A: math.MaxInt, B: math.MinInt, Rel: 77, Lo: 8, Hi: 7, To: -1}
	bent.Procs[0].Lo = greatest + 1
	for _, p := range []prog{
		{}, {Procs: []proc{}}, {Procs: make([]proc, 3)}, program(0), program(0, 0, 5), program(5, 0, 0),
		program(11), program(12, 1), program(1, 1, 1, 1, 1), program(12, 12, 12, 12, 12, 12), bent,
	} {
		mustNotBeOk(t, p)
		checkPlaces(t, p)
	}
	many := program(make([]int, 1000)...)
	many.Procs[999].Code = make([]ins, 5000)
	many.Procs[999].Code[4999] = ins{Op: 7}
	if got, ok := impl.PrgAt(many, 999, 4999); got.Op != 7 || !ok || impl.PrgSize(many) != 5000 {
		t.Errorf("PrgAt = %+v, %v, and PrgSize = %d, of many", got, ok, impl.PrgSize(many))
	}
	if got, ok := impl.PrgAt(many, 999, 5000); got != (ins{}) || ok {
		t.Errorf("PrgAt = %+v, %v, one beyond many", got, ok)
	}
}

func TestProgramsAreLeftAsTheyWere(t *testing.T) {
	for _, sizes := range [][]int{{3}, {10, 1, 7}, {11}, {2, 0, 2}, {1, 1, 1, 1, 1}} {
		p := program(sizes...)
		was := fmt.Sprintf("%+v", p)
		impl.PrgOk(p)
		impl.PrgAt(p, 0, 0)
		impl.PrgSize(p)
		impl.PrgPrint(p)
		if now := fmt.Sprintf("%+v", p); now != was {
			t.Errorf("%s became %s", was, now)
		}
	}
}
