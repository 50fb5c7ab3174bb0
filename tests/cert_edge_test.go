package tests

import (
	"math/rand"
	"slices"
	"testing"

	"loop.example/outwork/impl"
)

// flowCase is a paper of a part, and what comes of it.
type flowCase struct {
	name string
	part []int
	was  []string
	want []string
}

func checkFlowCases(t *testing.T, p prog, all []sum, cases []flowCase) {
	t.Helper()
	for _, c := range cases {
		was, want := paperOf(t, c.was...), paperOf(t, c.want...)
		if got := impl.CrtFlow(p, all, c.part, was); !sameCert(got, want) {
			t.Errorf("%s: there comes %+v, not %+v", c.name, got, want)
		}
		checkPapers(t, papers{p, all, c.part, was, want})
	}
}

// Procedure 0 calls 1, which calls itself and is said to give 4..6; 2 calls nobody, and 3 calls 2.
func callers(t *testing.T) (prog, []sum) {
	p := read(t, "procs 4",
		"proc 0 3 size 3", "call b 1 a", "add c a b", "ret c",
		"proc 0 9 size 2", "call b 1 a", "ret b",
		"proc -5 5 size 1", "ret a",
		"proc 1 1 size 2", "call a 2 a", "ret a")
	return p, []sum{{}, gives(4, 6), gives(-1, 0), gives(7, 7)}
}

func TestCrtFlowOfOneProcedure(t *testing.T) {
	p, all := callers(t)
	entry := "0..3 0 0 0 0"
	checkFlowCases(t, p, all, []flowCase{
		{"where nothing comes", []int{0}, []string{"-", "-", "-", "gives -"}, []string{entry, "-", "-", "gives -"}},
		{"at the beginning", []int{0}, []string{entry, "-", "-", "gives -"}, []string{entry, "0..3 4..6 0 0 0", "-", "gives -"}},
		{"in the midst", []int{0}, []string{"-", "2 4 0 0 0", "-", "gives -"}, []string{entry, "-", "2 4 6 0 0", "gives -"}},
		{"at the end", []int{0}, []string{"-", "-", "1 2 3 4 5", "gives -"}, []string{entry, "-", "-", "gives 3"}},
		{"everywhere", []int{0}, []string{"0..12 7 7 7 7", "2 4 0 0 0", "1 2 3 4 5", "gives 8..9"}, []string{entry, "0..9 4..6 7 7 7", "2 4 6 0 0", "gives 3"}},
		{"what is said to be given alone", []int{0}, []string{"-", "-", "-", "gives 8..9"}, []string{entry, "-", "-", "gives -"}},
		{"nothing that may be given", []int{0}, []string{"10 0 0 0 0", "-", "-", "gives -"}, []string{entry, "-", "-", "gives -"}},
	})
}

// What the part's own procedures give is what the paper says, whatever the sums do; what others give is what the sums say.
func TestCrtFlowWithTheOwnSums(t *testing.T) {
	p, all := callers(t)
	entry := "0..9 0 0 0 0"
	checkFlowCases(t, p, all, []flowCase{
		{"the paper says more", []int{1}, []string{entry, "-", "gives 7..99"}, []string{entry, "0..9 7..99 0 0 0", "gives -"}},
		{"the paper says less", []int{1}, []string{entry, "-", "gives 5"}, []string{entry, "0..9 5 0 0 0", "gives -"}},
		{"the paper says nothing", []int{1}, []string{entry, "-", "gives -"}, []string{entry, "-", "gives -"}},
		{"of two", []int{0, 1},
			[]string{"0..3 0 0 0 0", "-", "-", "gives -", entry, "1 8 0 0 0", "gives 7"},
			[]string{"0..3 0 0 0 0", "0..3 7 0 0 0", "-", "gives -", entry, "0..9 7 0 0 0", "gives 8"}},
		{"of two, and of one nothing is said", []int{0, 1},
			[]string{"0..3 0 0 0 0", "-", "-", "gives 3", entry, "-", "gives -"},
			[]string{"0..3 0 0 0 0", "-", "-", "gives -", entry, "-", "gives -"}},
		{"not of the part", []int{0, 2},
			[]string{"0..3 0 0 0 0", "-", "-", "gives 3", "2..4 0 0 0 0", "gives -"},
			[]string{"0..3 0 0 0 0", "0..3 4..6 0 0 0", "-", "gives -", "-5..5 0 0 0 0", "gives 2..4"}},
	})
	// What is handed in for the others turns what comes.
	silent := []sum{gives(1, 1), {}, gives(2, 2), {}}
	checkFlowCases(t, p, silent, []flowCase{
		{"who is called gives nothing", []int{0}, []string{"0..3 0 0 0 0", "-", "-", "gives 5"}, []string{"0..3 0 0 0 0", "-", "-", "gives -"}},
		{"but the paper says so", []int{1}, []string{entry, "-", "gives 5"}, []string{entry, "0..9 5 0 0 0", "gives -"}},
	})
}

// Parts of several procedures that do not call each other, and of all.
func TestCrtFlowOfSeveral(t *testing.T) {
	p, all := callers(t)
	checkFlowCases(t, p, all, []flowCase{
		{"none calls the other one", []int{1, 2},
			[]string{"-", "3 4 0 0 0", "gives -", "-1 0 0 0 0", "gives 9"},
			[]string{"0..9 0 0 0 0", "-", "gives 4", "-5..5 0 0 0 0", "gives -1"}},
		{"beside each other", []int{0, 3},
			[]string{"-", "-", "2 4 6 0 0", "gives 9", "1 0 0 0 0", "8 0 0 0 0", "gives -"},
			[]string{"0..3 0 0 0 0", "-", "-", "gives 6", "1 0 0 0 0", "-1..0 0 0 0 0", "gives 8"}},
		{"all", []int{0, 1, 2, 3},
			[]string{"0 0 0 0 0", "-", "2 4 6 0 0", "gives 9", "1 0 0 0 0", "-", "gives 2..3", "-", "gives 5", "1 0 0 0 0", "-", "gives -"},
			[]string{"0..3 0 0 0 0", "0 2..3 0 0 0", "-", "gives 6", "0..9 0 0 0 0", "1 2..3 0 0 0", "gives -", "-5..5 0 0 0 0", "gives -", "1 0 0 0 0", "5 0 0 0 0", "gives -"}},
		{"where nothing comes", []int{0, 1, 2, 3},
			[]string{"-", "-", "-", "gives -", "-", "-", "gives -", "-", "gives -", "-", "-", "gives -"},
			[]string{"0..3 0 0 0 0", "-", "-", "gives -", "0..9 0 0 0 0", "-", "gives -", "-5..5 0 0 0 0", "gives -", "1 0 0 0 0", "-", "gives -"}},
	})
}

// To place 1 of the first one no step leads, and yet something comes there; it gives at places 1, 2 and 3. The second one gives at 1 and 2.
func TestCrtFlowOfWhatGives(t *testing.T) {
	p := read(t, "procs 2",
		"proc 0 9 size 4", "if a < b 3", "ret b", "ret c", "ret d",
		"proc 0 0 size 3", "jump 2", "ret b", "ret a")
	entry, second := "0..9 0 0 0 0", "0 0 0 0 0"
	checkFlowCases(t, p, make([]sum, 2), []flowCase{
		{"all give", []int{0}, []string{"-", "1 2 3 4 5", "1 -2 -3 -4 -5", "0 0 0 7..8 0", "gives -"}, []string{entry, "-", "-", "-", "gives -3..8"}},
		{"one gives", []int{0}, []string{"-", "-", "1 2 3 4 5", "-", "gives 9"}, []string{entry, "-", "-", "-", "gives 3"}},
		{"to one nothing comes", []int{0}, []string{"-", "1 2 3 4 5", "-", "0 0 0 7..8 0", "gives 9"}, []string{entry, "-", "-", "-", "gives 2..8"}},
		{"none gives", []int{0}, []string{entry, "-", "-", "-", "gives 9"}, []string{entry, entry, "-", "-", "gives -"}},
		{"no step leads there", []int{1}, []string{second, "0 8..9 0 0 0", "-", "gives -"}, []string{second, "-", second, "gives 8..9"}},
		{"there alone", []int{1}, []string{"-", "0 8..9 0 0 0", "-", "gives -"}, []string{second, "-", "-", "gives 8..9"}},
		{"and elsewhere", []int{1}, []string{second, "0 8..9 0 0 0", "-3 4 5 6 7", "gives 1"}, []string{second, "-", second, "gives -3..9"}},
		{"both procedures", []int{0, 1}, []string{"-", "-", "-", "4 5 6 7 8", "gives -", "-", "0 8..9 0 0 0", "-", "gives -"}, []string{entry, "-", "-", "-", "gives 7", second, "-", "-", "gives 8..9"}},
	})
}

// To place 2 three steps lead; both ways of the OpIf at 2 lead to 3; and to the first place what may be given comes beside what leads back.
func TestCrtFlowWhereSeveralLead(t *testing.T) {
	p := read(t, "procs 1", "proc -1 2 size 5", "if a < b 2", "jump 2", "if c < d 3", "if a = b 2", "jump 0")
	entry := "-1..2 0 0 0 0"
	checkFlowCases(t, p, make([]sum, 1), []flowCase{
		{"from two", []int{0}, []string{entry, "7 8 9 10 11", "-", "-", "-", "gives -"},
			[]string{entry, "0..2 0 0 0 0", "-1..7 0..8 0..9 0..10 0..11", "-", "-", "gives -"}},
		{"from three", []int{0}, []string{entry, "7 8 9 10 11", "-", "-9 -9 3 3 3", "-", "gives -"},
			[]string{entry, "0..2 0 0 0 0", "-9..7 -9..8 0..9 0..10 0..11", "-", "-", "gives -"}},
		{"by both ways to one place", []int{0}, []string{"-", "-", "0 0 0..9 3..5 0", "-", "-", "gives -"},
			[]string{entry, "-", "-", "0 0 0..9 3..5 0", "-", "gives -"}},
		{"by one way alone", []int{0}, []string{"-", "-", "0 0 0..2 3..5 0", "-", "-", "gives -"},
			[]string{entry, "-", "-", "0 0 0..2 3..5 0", "-", "gives -"}},
		{"by the other way alone", []int{0}, []string{"-", "-", "0 0 5..9 3..5 0", "-", "-", "gives -"},
			[]string{entry, "-", "-", "0 0 5..9 3..5 0", "-", "gives -"}},
		{"by two ways to two places", []int{0}, []string{"-", "-", "-", "0..4 3..5 1 1 1", "-", "gives -"},
			[]string{entry, "-", "3..4 3..4 1 1 1", "-", "0..4 3..5 1 1 1", "gives -"}},
		{"back to the beginning", []int{0}, []string{"-", "-", "-", "-", "9 3 0 0 -4", "gives -"},
			[]string{"-1..9 0..3 0 0 -4..0", "-", "-", "-", "-", "gives -"}},
	})
}

// An OpIf whose To is the next place: both ways lose something, and their join has it all but for the gap between them.
func TestCrtFlowOfBothWaysToOnePlace(t *testing.T) {
	p := read(t, "procs 1", "proc 0 9 size 3", "set b 3", "if a != b 2", "ret a")
	checkFlowCases(t, p, make([]sum, 1), []flowCase{
		{"within", []int{0}, []string{"-", "0..9 3 0 0 0", "-", "gives -"}, []string{"0..9 0 0 0 0", "-", "0..9 3 0 0 0", "gives -"}},
		{"at an end", []int{0}, []string{"-", "3..9 3 0 0 0", "-", "gives -"}, []string{"0..9 0 0 0 0", "-", "3..9 3 0 0 0", "gives -"}},
		{"each loses something", []int{0}, []string{"-", "0..2 2..4 0 0 0", "-", "gives -"}, []string{"0..9 0 0 0 0", "-", "0..2 2..4 0 0 0", "gives -"}},
	})
}

// Where nothing comes, in each function, on each side and on both.
func TestPapersOnWhichNothingComes(t *testing.T) {
	eachDrawnPair(t, func(p prog, all []sum, part []int, c cert) {
		start := impl.CrtStart(p, part)
		if !impl.CrtOk(p, part, start) || !sameCert(start, startOf(p, part)) {
			t.Fatalf("of the part %v of %+v CrtStart is %+v", part, p, start)
		}
		for _, two := range [][2]cert{{start, c}, {c, start}, {start, start}} {
			want := c
			if sameCert(two[0], two[1]) {
				want = start
			}
			if j, w := impl.CrtJoin(p, part, two[0], two[1]), impl.CrtWide(p, part, two[0], two[1]); !sameCert(j, want) || !sameCert(w, want) {
				t.Fatalf("of nothing and %+v the join is %+v, and grown it is %+v", c, j, w)
			}
			checkPapers(t, papers{p, all, part, two[0], two[1]})
		}
		if !impl.CrtIn(p, part, start, c) || !impl.CrtIn(p, part, start, start) || impl.CrtIn(p, part, c, start) != sameCert(c, start) {
			t.Fatalf("nothing is within %+v: %v", c, impl.CrtIn(p, part, start, c))
		}
		if impl.CrtPost(p, all, part, start) || len(impl.CrtAlarms(p, part, start)) != 0 {
			t.Fatalf("of the part %v of %+v nothing is right, or may fail", part, p)
		}
		own := impl.CrtSums(p, all, part, start)
		for _, k := range part {
			if own[k] != (sum{}) {
				t.Fatalf("a paper on which nothing is given has the sums %+v", own)
			}
		}
	})
}

// eachDrawnPair sees papers of all parts of programs drawn.
func eachDrawnPair(t *testing.T, see func(p prog, all []sum, part []int, c cert)) {
	t.Helper()
	eachDrawn(200, func(r *rand.Rand, p prog, all []sum, _ []int) {
		for _, part := range anyParts(len(p.Procs)) {
			see(p, all, part, drawnCert(r, p, part))
		}
	})
}

// A sum that gives nothing on one side alone, and on both.
func TestPapersOfWhichOneGivesNothing(t *testing.T) {
	p, part := smallProgram(t), []int{0}
	of := func(gives string) cert { return paperOf(t, "0..1 5 0 0 0", "gives "+gives) }
	for _, c := range []struct {
		a, b, join, wide string
		in               bool
	}{
		{"-", "-", "-", "-", true},
		{"-", "5..7", "5..7", "5..7", true},
		{"5..7", "-", "5..7", "5..7", false},
		{"5..7", "5..7", "5..7", "5..7", true},
		{"5..7", "5..8", "5..8", "5..10", true},
		{"5..8", "5..7", "5..8", "5..8", false},
		{"5..7", "4..7", "4..7", "1..7", true},
		{"4..7", "5..7", "4..7", "4..7", false},
		{"5..7", "-5..70", "-5..70", "-10..100", true},
		{"5..7", "-500..7000", "-500..7000", "-1000..32767", true},
		{"5..7", "8..9", "5..9", "5..10", false},
		{"0", "-", "0", "0", false},
		{"-", "0", "0", "0", true},
		{"0", "-32768..32767", "-32768..32767", "-32768..32767", true},
	} {
		a, b := of(c.a), of(c.b)
		if got := impl.CrtJoin(p, part, a, b); !sameCert(got, of(c.join)) {
			t.Errorf("the join of what gives %s and what gives %s gives %+v", c.a, c.b, got.Outs)
		}
		if got := impl.CrtWide(p, part, a, b); !sameCert(got, of(c.wide)) {
			t.Errorf("what gives %s grown over what gives %s gives %+v", c.a, c.b, got.Outs)
		}
		if got := impl.CrtIn(p, part, a, b); got != c.in {
			t.Errorf("what gives %s is within what gives %s: %v", c.a, c.b, got)
		}
		checkPapers(t, papers{p, []sum{{}}, part, a, b})
	}
}

// Each state, and each sum, is held against the one at its place, whatever is beside it.
func TestPapersThatAreOtherInOnePlace(t *testing.T) {
	p, all := callers(t)
	for _, part := range anyParts(4) {
		some := startOf(p, part)
		for k, states := range some.States {
			for pc := range states {
				states[pc] = st(itv(0, 5), itv(0, 5), itv(0, 5), itv(0, 5), itv(0, 5))
			}
			some.Outs[k] = gives(0, 5)
		}
		for _, more := range grownInOnePlace(some) {
			if impl.CrtIn(p, part, more, some) || !impl.CrtIn(p, part, some, more) {
				t.Errorf("%+v is within %+v, or not the other way round", more, some)
			}
			if got := impl.CrtJoin(p, part, some, more); !sameCert(got, more) {
				t.Errorf("the join of %+v and %+v is %+v", some, more, got)
			}
			checkPapers(t, papers{p, all, part, some, more})
			checkPapers(t, papers{p, all, part, more, some})
		}
	}
}

// grownInOnePlace are papers that have more than another one in one end of one of its bounds.
func grownInOnePlace(c cert) []cert {
	var out []cert
	for k, states := range c.States {
		for pc, s := range states {
			for v := range s.Vars {
				for _, b := range []bounds{itv(s.Vars[v].Lo-7, s.Vars[v].Hi), itv(s.Vars[v].Lo, s.Vars[v].Hi+7)} {
					more := copiedCert(c)
					more.States[k][pc].Vars[v] = b
					out = append(out, more)
				}
			}
			more := copiedCert(c)
			more.States[k][pc].Cells.Hi++
			out = append(out, more)
		}
		more := copiedCert(c)
		more.Outs[k].Out.Lo--
		out = append(out, more)
	}
	return out
}

// sitesAt are places, each by its procedure and where in that it is.
func sitesAt(numbers ...int) []site {
	var out []site
	for k := 0; k < len(numbers); k += 2 {
		out = append(out, site{Proc: numbers[k], Pc: numbers[k+1]})
	}
	return out
}

// Whatever may fail, at the first place and the last but one, of several procedures; where nothing comes nothing may.
func TestCrtAlarmsByPlaces(t *testing.T) {
	p := read(t, "procs 3",
		"proc 0 9 size 6", "div a a b", "load c a", "store a c", "call a 1 b", "assert a < b", "ret a",
		"proc 0 3 size 2", "add a a b", "ret a",
		"proc 0 9 size 3", "if a = b 0", "load d d", "jump 1")
	bad, good := "-9..9 -9..9 0 9 0", "1 2 0 3 0"
	one := []string{"-", "-", "gives -"}
	for _, c := range []struct {
		part  []int
		lines []string
		want  []site
	}{
		{[]int{0}, []string{bad, bad, bad, bad, bad, bad, "gives -"}, sitesAt(0, 0, 0, 1, 0, 2, 0, 3, 0, 4)},
		{[]int{0}, []string{good, good, good, good, good, good, "gives -"}, nil},
		{[]int{0}, []string{"-", "-", "-", "-", "-", "-", "gives 1"}, nil},
		{[]int{0}, []string{bad, "-", good, bad, "-", bad, "gives -"}, sitesAt(0, 0, 0, 3)},
		{[]int{1}, []string{bad, bad, "gives -"}, nil},
		{[]int{2}, []string{bad, bad, bad, "gives -"}, sitesAt(2, 1)},
		{[]int{0, 2}, []string{good, good, bad, good, bad, bad, "gives -", bad, bad, bad, "gives -"}, sitesAt(0, 2, 0, 4, 2, 1)},
		{[]int{1, 2}, []string{bad, bad, "gives -", bad, good, bad, "gives -"}, nil},
		{[]int{0, 1, 2}, slices.Concat([]string{"-", bad, good, good, good, good, "gives -"}, one, []string{"-", bad, "-", "gives -"}), sitesAt(0, 1, 2, 1)},
	} {
		paper := paperOf(t, c.lines...)
		if got := impl.CrtAlarms(p, c.part, paper); !slices.Equal(got, c.want) {
			t.Errorf("of the part %v CrtAlarms of %v is %v, not %v", c.part, c.lines, got, c.want)
		}
		checkPapers(t, papers{p, make([]sum, 3), c.part, paper, paper})
	}
}
