package tests

import (
	"math"
	"math/rand"
	"slices"
	"testing"

	"loop.example/outwork/impl"
)

func mustBeVerdict(t *testing.T, what string, got, want verdict) {
	t.Helper()
	if !sameVerdict(got, want) {
		t.Errorf("%s: the verdict is %+v, not %+v", what, got, want)
	}
}

// Without parts there is nothing, and no papers of no parts are safe.
func TestOneMachineOfProgramsThatAreNotOk(t *testing.T) {
	good := chain(t)
	certs := impl.SeqCerts(good)
	for _, p := range badPrograms(t) {
		if got := impl.SeqCerts(p); len(got) != 0 {
			t.Errorf("SeqCerts(%+v) = %+v", p, got)
		}
		if got := impl.SeqRounds(p); got != 0 {
			t.Errorf("SeqRounds(%+v) = %d", p, got)
		}
		for _, given := range [][]cert{nil, {}, certs, certs[:1], {{}}, make([]cert, 4), {paperFor(p, []int{0})}} {
			mustBeVerdict(t, "of a program that is not ok", impl.VrdOf(p, given), verdict{})
		}
	}
}

// drawnPapers is a program with at least so many parts, and papers of all of them.
func drawnPapers(r *rand.Rand, parts int) (prog, []cert) {
	for {
		p := busy(r, mostProcs, true)
		if certs := impl.SeqCerts(p); len(certs) >= parts {
			return p, certs
		}
	}
}

func TestVrdOfWithTooFewOrTooManyPapers(t *testing.T) {
	r := rand.New(rand.NewSource(103))
	for range 40 {
		p, certs := drawnPapers(r, 2)
		mustBeVerdict(t, "of all papers", impl.VrdOf(p, certs), verdictOf(p, certs))
		for _, given := range [][]cert{
			nil, {}, certs[:1], certs[1:], certs[:len(certs)-1], append(slices.Clone(certs), certs[0]), append(slices.Clone(certs), cert{}),
			append([]cert{{}}, certs...), make([]cert, len(certs)), slices.Concat(certs, certs),
		} {
			mustBeVerdict(t, "of too few or too many", impl.VrdOf(p, given), verdict{})
		}
	}
}

// One paper that is not ok is enough, wherever it stands, and whatever the others say.
func TestVrdOfWithAPaperThatIsNotOk(t *testing.T) {
	r := rand.New(rand.NewSource(104))
	for range 6 {
		p, certs := drawnPapers(r, 2)
		parts := impl.GrfParts(p)
		for k, part := range parts {
			for _, bad := range badCerts(p, part) {
				given := slices.Clone(certs)
				given[k] = bad
				if areCerts(p, given) {
					t.Fatalf("%+v is ok", bad)
				}
				mustBeVerdict(t, "of one that is not ok", impl.VrdOf(p, given), verdict{})
			}
		}
	}
}

// In another order papers are of other parts: not ok, if these have other steps, and else read as theirs.
func TestVrdOfWithPapersInAnotherOrder(t *testing.T) {
	// Each has three steps; 0 may fail at 0, and 1 at 1.
	same := read(t, linesIn("proc 0 9 size 3 / call b 1 a / load c d / ret c / proc 0 8 size 3 / set b 0 / div c a b / ret c")...)
	certs := impl.SeqCerts(same)
	mustBeVerdict(t, "in order", impl.VrdOf(same, certs), alarms(spot(0, 0), spot(1, 1)))
	// Of what came to 1 nothing may fail in 0; of what came to 0 1 is not come to at 1.
	mustBeVerdict(t, "in another order", impl.VrdOf(same, []cert{certs[1], certs[0]}), safe())
	other := read(t, linesIn("proc 0 9 size 3 / call b 1 a / load c d / ret c / proc 0 8 size 2 / div c a b / ret c")...)
	certs = impl.SeqCerts(other)
	mustBeVerdict(t, "in order", impl.VrdOf(other, certs), alarms(spot(0, 0), spot(1, 0)))
	mustBeVerdict(t, "in another order", impl.VrdOf(other, []cert{certs[1], certs[0]}), verdict{})
	mustBeVerdict(t, "twice the same", impl.VrdOf(other, []cert{certs[0], certs[0]}), verdict{})

	r := rand.New(rand.NewSource(105))
	ok := 0
	for range 200 {
		p, certs := drawnPapers(r, 2)
		r.Shuffle(len(certs), func(a, b int) { certs[a], certs[b] = certs[b], certs[a] })
		mustBeVerdict(t, "drawn", impl.VrdOf(p, certs), verdictOf(p, certs))
		if areCerts(p, certs) {
			ok++
		}
	}
	if ok < 20 || ok > 180 {
		t.Errorf("%d were ok", ok)
	}
}

func TestVerdictsOfTextsThatAreWrong(t *testing.T) {
	good := []string{"procs 2", "proc 0 3 size 2", "call b 1 a", "ret b", "proc 0 3 size 2", "load b a", "ret b"}
	for _, c := range []struct {
		lines []string
		want  verdict
	}{
		{good, safe()},
		{nil, wrongAt(1)},
		{[]string{}, wrongAt(1)},
		{[]string{""}, wrongAt(1)},
		{with(good, 0, "procs 5"), wrongAt(1)},
		{with(good, 0, "procs 1"), wrongAt(3)},
		{with(good, 0, "procs 3"), wrongAt(8)},
		{with(good, 1, "proc 3 0 size 2"), wrongAt(2)},
		{with(good, 3, "add b b b"), wrongAt(4)},
		{with(good, 6, "ret e"), wrongAt(7)},
		{with(good, 6, "load b a"), wrongAt(7)},
		{good[:6], wrongAt(7)},
		{good[:1], wrongAt(2)},
		{append(slices.Clone(good), ""), wrongAt(8)},
		{append(slices.Clone(good), "ret b", "ret b"), wrongAt(8)},
		{with(with(good, 2, "call b 2 a"), 5, "load b e"), wrongAt(3)},
		{append(slices.Repeat([]string{"procs 4"}, 1), slices.Repeat([]string{"proc 0 0 size 1", "ret a"}, 100000)...), wrongAt(10)},
	} {
		mustBeVerdict(t, "of a text", impl.SeqVerdict(c.lines), c.want)
		checkVerdict(t, c.lines, c.want)
		if want := linesFor(c.want); !slices.Equal(impl.VrdText(c.lines, impl.SeqVerdict(c.lines)), want) {
			t.Errorf("of %.200q it is not told %q", c.lines, want)
		}
	}
}

// verdictCase is a verdict of a text, and whether it may be one of it.
type verdictCase struct {
	v  verdict
	is bool
}

func checkVerdictCases(t *testing.T, lines []string, cases []verdictCase) {
	t.Helper()
	for _, c := range cases {
		if isVerdict(lines, c.v) != c.is || impl.VrdOk(lines, c.v) != c.is {
			t.Errorf("of %q %+v is ok: %v, not %v", lines, c.v, impl.VrdOk(lines, c.v), c.is)
		}
		checkVerdict(t, lines, c.v)
	}
}

func TestVrdOkOfATextThatIsRight(t *testing.T) {
	lines := []string{
		"procs 3", "proc 0 9 size 5", "div a b a", "load b a", "set c 1", "store b a", "ret a",
		"proc 0 9 size 4", "if a < b 2", "call b 1 a", "jump 3", "ret c",
		"proc 0 9 size 3", "assert b < a", "add a b c", "ret d",
	}
	all := []site{spot(0, 0), spot(0, 1), spot(0, 3), spot(1, 1), spot(2, 0)}
	cases := []verdictCase{{safe(), true}, {verdict{}, false}, {alarms(), false}, {verdict{Kind: saysAlarms, Sites: []site{}}, false}}
	// All lists of two of all places, and of some beyond them: both must be there, the second one behind the first one.
	for a := range 7 * 12 {
		one := spot(a/12-2, a%12-1)
		cases = append(cases, verdictCase{alarms(one), slices.Contains(all, one)})
		for b := range 7 * 12 {
			other := spot(b/12-2, b%12-1)
			is := slices.Contains(all, one) && slices.Contains(all, other) && slices.Index(all, one) < slices.Index(all, other)
			cases = append(cases, verdictCase{alarms(one, other), is})
		}
	}
	for k := range all {
		cases = append(cases,
			verdictCase{alarms(all[:k+1]...), true},
			verdictCase{alarms(slices.Delete(slices.Clone(all), k, k+1)...), true},
			verdictCase{alarms(slices.Insert(slices.Clone(all), k, all[k])...), false},
			verdictCase{alarms(append(slices.Clone(all), all[k])...), false},
			verdictCase{alarms(slices.Insert(slices.Clone(all), k, spot(0, 2))...), false},
			verdictCase{alarms(slices.Insert(slices.Clone(all), k, spot(0, 4))...), false},
			verdictCase{alarms(slices.Insert(slices.Clone(all), k, spot(1, 0))...), false},
		)
	}
	cases = append(cases,
		verdictCase{alarms(spot(0, 1), spot(0, 0)), false}, verdictCase{alarms(spot(1, 1), spot(0, 3)), false}, verdictCase{alarms(spot(2, 0), spot(1, 1)), false},
		verdictCase{alarms(spot(math.MinInt, 0)), false}, verdictCase{alarms(spot(0, math.MinInt)), false},
		verdictCase{alarms(spot(math.MaxInt, 0)), false}, verdictCase{alarms(spot(0, math.MaxInt)), false},
	)
	checkVerdictCases(t, lines, cases)
	reversed := slices.Clone(all)
	slices.Reverse(reversed)
	checkVerdictCases(t, lines, []verdictCase{{alarms(reversed...), false}})
	checkOtherLinesAndKinds(t, lines, all)
}

// checkOtherLinesAndKinds asks of a text that is right for verdicts that are ok but for the Line, or for the Kind.
func checkOtherLinesAndKinds(t *testing.T, lines []string, sites []site) {
	t.Helper()
	var cases []verdictCase
	for _, line := range []int{math.MinInt, -1, 1, 2, len(lines) - 1, len(lines), len(lines) + 1, math.MaxInt} {
		cases = append(cases,
			verdictCase{wrongAt(line), false},
			verdictCase{verdict{Kind: saysSafe, Line: line}, false},
			verdictCase{verdict{Kind: saysAlarms, Line: line, Sites: sites}, false},
			verdictCase{verdict{Kind: saysAlarms, Line: line}, false},
			verdictCase{verdict{Kind: saysWrong, Line: line, Sites: sites}, false},
		)
	}
	for _, kind := range []int{math.MinInt, -1, 0, 1, 4, 5, 65537, math.MaxInt} {
		cases = append(cases, verdictCase{verdict{Kind: kind}, false}, verdictCase{verdict{Kind: kind, Sites: sites}, false}, verdictCase{verdict{Kind: kind, Sites: []site{}}, false})
	}
	cases = append(cases, verdictCase{verdict{Kind: saysSafe, Sites: sites}, false}, verdictCase{verdict{Kind: saysSafe, Sites: sites[:1]}, false}, verdictCase{verdict{Kind: saysSafe, Sites: []site{}}, true})
	checkVerdictCases(t, lines, cases)
}

// Of a text that is wrong just VrdWrong with its line may be one, and nothing beside it.
func TestVrdOkOfATextThatIsWrong(t *testing.T) {
	good := []string{"procs 1", "proc 0 9 size 3", "div a b a", "load b a", "ret a"}
	for _, lines := range [][]string{nil, {}, with(good, 0, "procs 2"), with(good, 0, "procs 0"), with(good, 1, ""), with(good, 2, "ret e"), with(good, 4, "ret e"), good[:4], append(slices.Clone(good), "ret a")} {
		wrong := firstWrong(lines)
		cases := []verdictCase{
			{wrongAt(wrong), true}, {verdict{Kind: saysWrong, Line: wrong, Sites: []site{}}, true},
			{verdict{Kind: saysWrong, Line: wrong, Sites: []site{spot(0, 0)}}, false}, {verdict{Kind: saysWrong, Line: wrong, Sites: []site{spot(0, 0), spot(0, 1)}}, false},
			{safe(), false}, {verdict{}, false}, {alarms(spot(0, 0)), false}, {alarms(), false}, {alarms(spot(0, 0), spot(0, 1)), false},
			{verdict{Kind: saysSafe, Line: wrong}, false}, {verdict{Kind: saysAlarms, Line: wrong, Sites: []site{spot(0, 0)}}, false}, {verdict{Kind: saysAlarms, Line: wrong}, false},
			{verdict{Line: wrong}, false}, {verdict{Kind: 4, Line: wrong}, false}, {verdict{Kind: -1, Line: wrong}, false},
		}
		for line := -1; line < 10; line++ {
			cases = append(cases, verdictCase{wrongAt(line), line == wrong})
		}
		for _, line := range []int{math.MinInt, math.MaxInt, wrong + 65536, -wrong} {
			cases = append(cases, verdictCase{wrongAt(line), false})
		}
		checkVerdictCases(t, lines, cases)
	}
}

// linesRoom is lines with room behind their end, filled.
func linesRoom(lines []string) []string {
	return fillRoom(append(make([]string, 0, len(lines)+3), lines...), "ret a")
}

func certsRoom(certs []cert) []cert {
	out := make([]cert, 0, len(certs)+2)
	for _, c := range certs {
		out = append(out, certRoom(c))
	}
	return fillRoom(out, cert{States: [][]state{{}}})
}

func verdictRoom(v verdict) verdict {
	v.Sites = fillRoom(append(make([]site, 0, len(v.Sites)+3), v.Sites...), spot(71, 72))
	return v
}

// seqAnswers is all that is told of a program, its text, papers of it, and a verdict.
func seqAnswers(p prog, lines []string, certs []cert, v verdict) []any {
	return []any{impl.SeqCerts(p), impl.VrdOf(p, certs), impl.SeqVerdict(lines), impl.VrdText(lines, v)}
}

func checkSeqMemory(t *testing.T, p prog, lines []string, certs []cert, v verdict) {
	t.Helper()
	given := []any{p, lines, certs, v}
	was := wholeOf(given...)
	impl.VrdOk(lines, v)
	impl.SeqRounds(p)
	once, again := seqAnswers(p, lines, certs, v), seqAnswers(p, lines, certs, v)
	mustBeApart(t, given, append(once, again...))
	if now := wholeOf(given...); now != was {
		t.Fatalf("%s became %s", was, now)
	}
}

func TestVerdictsShareNoMemory(t *testing.T) {
	eachSeq(150, func(r *rand.Rand, drawn prog) {
		p := progRoom(drawn)
		lines := linesRoom(linesOf(drawn))
		for oneOf := 1; oneOf < 3; oneOf++ {
			certs := certsRoom(anyPapers(r, p, oneOf))
			for _, v := range []verdict{impl.VrdOf(p, certs), impl.SeqVerdict(lines), safe(), alarms(riskySites(lines)...), wrongAt(3), {Kind: saysSafe, Sites: []site{spot(1, 1), spot(0, 0)}}} {
				checkSeqMemory(t, p, lines, certs, verdictRoom(v))
			}
			// What is not ok is left as it was, too.
			checkSeqMemory(t, p, linesRoom(with(lines, 1, "proc")), certsRoom(certs[1:]), verdictRoom(wrongAt(2)))
		}
	})
	for _, bad := range badPrograms(t) {
		checkSeqMemory(t, progRoom(bad), linesRoom(nil), certsRoom(impl.SeqCerts(chain(t))), verdictRoom(alarms(spot(2, 0))))
	}
}

// What is told can be turned, its room too, and nothing else turns.
func TestWhatOneMachineTellsIsNew(t *testing.T) {
	p := read(t, linesIn("proc 0 9 size 3 / call b 1 a / load c b / ret c / proc 0 8 size 3 / set b 0 / div c a b / ret c")...)
	certs := impl.SeqCerts(p)
	lists := [][]site{impl.VrdOf(p, certs).Sites, impl.VrdOf(p, certs).Sites, impl.SeqVerdict(linesOf(p)).Sites}
	for k, sites := range lists {
		fillRoom(sites[:0], site{Proc: 100 + k})
	}
	for k, sites := range lists {
		for _, at := range sites[:cap(sites)] {
			if at.Proc != 100+k {
				t.Errorf("list %d became %v", k, sites)
			}
		}
	}
	clear(certs[0].States[0])
	certs[1].Outs[0] = sum{}
	mustBeVerdict(t, "once more", impl.VrdOf(p, impl.SeqCerts(p)), alarms(spot(0, 0), spot(1, 1)))
}
