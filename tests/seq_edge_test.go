package tests

import (
	"math/rand"
	"runtime"
	"slices"
	"strings"
	"sync"
	"testing"

	"loop.example/outwork/impl"
)

func TestVrdConstants(t *testing.T) {
	if impl.VrdWrong != 1 || impl.VrdSafe != 2 || impl.VrdAlarms != 3 {
		t.Errorf("the constants are %d, %d, %d", impl.VrdWrong, impl.VrdSafe, impl.VrdAlarms)
	}
}

// linesIn are the lines of a text in which "/" stands between them; "procs N" is told by how many begin with "proc".
func linesIn(text string) []string {
	lines := strings.Split(text, " / ")
	procs := 0
	for _, s := range lines {
		if strings.HasPrefix(s, "proc ") {
			procs++
		}
	}
	return append([]string{"procs " + string(rune('0'+procs))}, lines...)
}

// seqCase is what is told of a text that is right: how many EngSteps its papers take, and the lines of its verdict.
type seqCase struct {
	text   string
	rounds int
	told   string
}

func checkSeqCases(t *testing.T, cases []seqCase) {
	t.Helper()
	for _, c := range cases {
		lines := linesIn(c.text)
		p := read(t, lines...)
		if got := strings.Join(impl.VrdText(lines, impl.SeqVerdict(lines)), ", "); got != c.told {
			t.Errorf("of %q it is told %q, not %q", lines, got, c.told)
		}
		if got := impl.SeqRounds(p); got != c.rounds {
			t.Errorf("SeqRounds of %q is %d, not %d", lines, got, c.rounds)
		}
		checkSeq(t, p)
	}
}

// Of one part each round in which something comes anew is one, and then there are one in which nothing does, and six that shrink.
func TestOneProcedure(t *testing.T) {
	checkSeqCases(t, []seqCase{
		{"proc 0 3 size 1 / ret a", 2 + 1 + 6, "safe"},
		{"proc -32768 32767 size 1 / ret d", 2 + 1 + 6, "safe"},
		{"proc 0 3 size 1 / jump 0", 1 + 1 + 6, "safe"},
		{"proc 0 3 size 2 / div a a b / ret a", 1 + 1 + 6, "may fail 0 0"},
		{"proc 0 3 size 3 / set b 1 / div a a b / ret a", 4 + 1 + 6, "safe"},
		{"proc 0 3 size 2 / div b b a / ret b", 3 + 1 + 6, "may fail 0 0"},
		{"proc 0 4 size 3 / load b a / store a a / ret b", 4 + 1 + 6, "may fail 0 0"},
		// Itself it may be given all that it was given.
		{"proc 0 3 size 2 / call b 0 a / ret b", 1 + 1 + 6, "safe"},
		{"proc 0 3 size 4 / if a = b 3 / sub a a c / call d 0 a / ret d", 4 + 1 + 6, "safe"},
		{"proc 0 3 size 5 / set b -1 / add c a b / call d 0 c / ret d / jump 4", 3 + 1 + 6, "may fail 0 2"},
	})
}

// As many steps as a procedure has, and as many procedures as there are.
func TestAsManyAsThereMayBe(t *testing.T) {
	ten := "set b 0 / div a a b / jump 9 / jump 3 / jump 4 / jump 5 / jump 6 / jump 7 / jump 8 / ret a"
	checkSeqCases(t, []seqCase{
		{"proc 1 1 size 10 / " + ten, 2 + 1 + 6, "may fail 0 1"},
		{"proc 0 9 size 10 / assert a <= a / div a a a / load a b / store a b / call c 1 b / div c b b / load d c / assert c = d / call d 2 a / ret d / " +
			"proc 0 0 size 1 / ret a / proc 5 9 size 1 / ret a", 6 + 1 + 6 + 9 + 9, "may fail 0 0, may fail 0 1, may fail 0 5"},
		{"proc 0 3 size 2 / call b 1 a / ret b / proc 0 3 size 2 / call b 2 a / ret b / proc 0 3 size 2 / call b 3 a / ret b / proc 0 3 size 1 / ret a", 3*10 + 9, "safe"},
		{"proc 0 3 size 2 / call b 1 a / ret b / proc 0 2 size 2 / call b 2 a / ret b / proc 0 1 size 2 / call b 3 a / ret b / proc 0 0 size 1 / ret a", 3*10 + 9, "may fail 0 0, may fail 1 0, may fail 2 0"},
	})
}

// Parts that need each other in a row, wherever they stand; two that need the same one; and two, and three, that are ready at once.
func TestPartsThatNeedOthers(t *testing.T) {
	// What the last one in a row gives comes to the first one: 7 alone.
	checkSeqCases(t, []seqCase{
		{"proc 0 0 size 4 / call b 1 a / set c 7 / assert b = c / ret b / proc 0 0 size 2 / call b 2 a / ret b / proc 0 0 size 2 / call b 3 a / ret b / proc 0 0 size 2 / set b 7 / ret b", 12 + 10 + 10 + 10, "safe"},
		{"proc 0 0 size 4 / call b 3 a / set c 7 / assert b = c / ret b / proc 0 0 size 2 / call b 2 a / ret b / proc 0 0 size 2 / set b 7 / ret b / proc 0 0 size 2 / call b 1 a / ret b", 12 + 10 + 10 + 10, "safe"},
		{"proc 0 0 size 4 / call b 2 a / set c 8 / assert b = c / ret b / proc 0 0 size 2 / set b 7 / ret b / proc 0 0 size 2 / call b 1 a / ret b", 10 + 10 + 10, "may fail 0 2"},
		// 1 and 2 need 3; 0 needs 1 and 2, which are ready at once.
		{"proc 0 0 size 5 / call b 1 a / call c 2 a / sub d c b / assert b < d / ret d / proc 0 0 size 2 / call b 3 a / ret b / proc 0 0 size 3 / call b 3 a / mul b b b / ret b / proc 0 0 size 2 / set b 7 / ret b", 13 + 10 + 11 + 10, "safe"},
		{"proc 0 0 size 5 / call b 1 a / call c 2 a / sub d c b / assert d < b / ret d / proc 0 0 size 2 / call b 3 a / ret b / proc 0 0 size 3 / call b 3 a / mul b b b / ret b / proc 0 0 size 2 / set b 7 / ret b", 11 + 10 + 11 + 10, "may fail 0 3"},
		// 1, 2 and 3 are ready at once.
		{"proc 0 0 size 6 / call b 1 a / call c 2 a / call d 3 a / add b b c / assert b = d / ret d / proc 0 0 size 2 / set b 1 / ret b / proc 0 0 size 2 / set b 2 / ret b / proc 0 0 size 2 / set b 3 / ret b", 14 + 3*10, "safe"},
		{"proc 0 0 size 6 / call b 1 a / call c 2 a / call d 3 a / add b b c / assert d < b / ret d / proc 0 0 size 2 / set b 1 / ret b / proc 0 0 size 2 / set b 2 / ret b / proc 0 0 size 2 / set b 3 / ret b", 12 + 3*10, "may fail 0 4"},
		// 1 needs 2, which 0 needs too.
		{"proc 0 0 size 4 / call b 1 a / call c 2 a / assert b = c / ret d / proc 0 0 size 2 / call b 2 a / ret b / proc 0 0 size 2 / set b 1 / ret b", 12 + 10 + 10, "safe"},
	})
}

// Procedures that call each other are one part, with one paper.
func TestPartsOfSeveral(t *testing.T) {
	checkSeqCases(t, []seqCase{
		{"proc 0 3 size 4 / if b < a 2 / ret b / call c 1 a / ret c / proc 1 3 size 4 / set b 1 / sub a a b / call d 0 a / ret d", 6 + 1 + 6, "safe"},
		{"proc 0 3 size 4 / if b < a 2 / ret b / call c 1 a / ret c / proc 1 2 size 4 / set b 1 / sub a a b / call d 0 a / ret d", 6 + 1 + 6, "may fail 0 2"},
		{"proc 0 3 size 3 / call b 1 a / div b a b / ret b / proc 0 3 size 2 / call b 2 a / ret b / proc 0 3 size 2 / call b 0 a / ret b", 1 + 1 + 6, "safe"},
		{"proc 0 3 size 2 / call b 1 a / ret b / proc 0 3 size 2 / call b 2 a / ret b / proc 0 3 size 2 / call b 3 a / ret b / proc 0 3 size 4 / if b < a 2 / ret b / call c 0 b / ret c", 10 + 1 + 6, "safe"},
		// One that calls itself, called by another one, which may give it too much.
		{"proc 0 9 size 4 / call b 1 a / load c b / div c a b / ret c / proc 0 9 size 5 / set c 1 / if a < c 4 / sub b a c / call a 1 b / ret a", 10 + 12, "may fail 0 2"},
	})
	if got := impl.SeqCerts(read(t, linesIn("proc 0 3 size 2 / call b 1 a / ret b / proc 0 3 size 2 / call b 0 a / ret b")...)); len(got) != 1 || len(got[0].States) != 2 || len(got[0].Outs) != 2 {
		t.Errorf("of one part of two there are the papers %+v", got)
	}
}

// Whoever cannot be come to has no paper, and nothing of it is told; that it calls others does not count.
func TestWhoCannotBeComeToHasNoPaper(t *testing.T) {
	bad := "size 3 / div a a b / load a b / ret a"
	checkSeqCases(t, []seqCase{
		{"proc 0 3 size 1 / ret a / proc 0 9 " + bad, 9, "safe"},
		{"proc 0 3 size 1 / ret a / proc 0 9 " + bad + " / proc 0 9 size 4 / call b 0 a / call b 1 a / call b 2 a / ret b", 9, "safe"},
		{"proc 0 3 size 2 / call b 2 a / ret b / proc 9 9 " + bad + " / proc 0 3 size 2 / div c a b / ret c", 8 + 8, "may fail 2 0"},
		// The step that calls is not come to, but the one that is called has a paper all the same.
		{"proc 0 3 size 3 / ret a / call b 1 a / ret b / proc 0 9 size 2 / div a a b / ret a", 9 + 8, "may fail 1 0"},
		// One is come to only by way of a part that cannot give anything.
		{"proc 0 3 size 2 / call b 1 a / ret b / proc 0 3 size 3 / call b 2 a / jump 1 / ret b / proc 0 3 size 2 / assert a = b / ret a", 8 + 9 + 10, "may fail 2 0"},
	})
	p := read(t, linesIn("proc 0 3 size 2 / call b 2 a / ret b / proc 9 9 "+bad+" / proc 0 3 size 1 / ret a")...)
	if got := impl.SeqCerts(p); len(got) != 2 || len(got[0].States[0]) != 2 || len(got[1].States[0]) != 1 || got[1].Outs[0] != gives(0, 3) {
		t.Errorf("of the parts {0} and {2} there are %+v", got)
	}
}

// What a part ahead gives comes behind the call; where it gives nothing nothing does.
func TestSumsOfPartsAhead(t *testing.T) {
	checkSeqCases(t, []seqCase{
		{"proc 0 0 size 3 / call b 1 a / div c a b / ret c / proc 0 0 size 2 / any b 1 5 / ret b", 11 + 10, "safe"},
		{"proc 0 0 size 3 / call b 1 a / div c a b / ret c / proc 0 0 size 2 / any b 0 5 / ret b", 11 + 10, "may fail 0 1"},
		{"proc 0 0 size 3 / call b 1 a / div c a b / ret c / proc 0 0 size 2 / any b -5 -1 / ret b", 11 + 10, "safe"},
		// This one never gives anything, so the quotient by 0 behind the call is not come to; the call itself may fail.
		{"proc 0 0 size 3 / call b 1 a / div c a c / ret c / proc 0 0 size 1 / jump 0", 8 + 8, "safe"},
		{"proc 0 9 size 3 / call b 1 a / div c a c / ret c / proc 0 0 size 1 / jump 0", 8 + 8, "may fail 0 0"},
		{"proc 0 0 size 3 / call b 1 a / div c a c / ret c / proc 0 0 size 2 / assert a < a / ret a", 8 + 8, "may fail 1 0"},
		{"proc 0 0 size 3 / call b 1 a / div c a c / ret c / proc 0 0 size 1 / ret a", 9 + 9, "may fail 0 1"},
	})
	p := read(t, linesIn("proc 0 3 size 3 / call b 1 a / call c 2 a / ret c / proc 0 3 size 1 / ret a / proc 0 3 size 1 / jump 0")...)
	got := impl.SeqCerts(p)
	want := []cert{
		paperOf(t, "0..3 0 0 0 0", "0..3 0..3 0 0 0", "-", "gives -"),
		paperOf(t, "0..3 0 0 0 0", "gives 0..3"),
		paperOf(t, "0..3 0 0 0 0", "gives -"),
	}
	if !sameCerts(got, want) {
		t.Errorf("the papers are %+v, not %+v", got, want)
	}
}

// A step that can fail by itself, and to which nothing comes, is not told, though a verdict with it may be one of the text.
func TestStepsToWhichNothingComes(t *testing.T) {
	for _, step := range []string{"div a a b", "load a b", "store b b", "call a 0 b", "assert a < a"} {
		for _, text := range []string{
			"proc 9 9 size 3 / ret a / " + step + " / ret a",
			"proc 9 9 size 3 / jump 2 / " + step + " / ret a",
			"proc 9 9 size 4 / if a < b 2 / jump 3 / " + step + " / ret a",
			"proc 9 9 size 3 / jump 0 / " + step + " / ret a",
		} {
			lines := linesIn(text)
			if got := impl.SeqVerdict(lines); !sameVerdict(got, safe()) {
				t.Errorf("the verdict of %q is %+v", lines, got)
			}
			if v := alarms(riskySites(lines)...); len(v.Sites) != 1 || !impl.VrdOk(lines, v) {
				t.Errorf("of %q %+v is not ok", lines, v)
			}
			checkSeq(t, read(t, lines...))
		}
	}
}

// Each kind of step that may fail does not where it cannot: within its bounds, and one beyond them.
func TestWhatCannotFail(t *testing.T) {
	for _, c := range []struct{ can, cannot string }{
		{"proc 0 5 size 2 / div b b a / ret b", "proc 1 5 size 2 / div b b a / ret b"},
		{"proc -5 0 size 2 / div b b a / ret b", "proc -5 -1 size 2 / div b b a / ret b"},
		{"proc 0 4 size 2 / load b a / ret b", "proc 0 3 size 2 / load b a / ret b"},
		{"proc -1 3 size 2 / load b a / ret b", "proc 3 3 size 2 / load b a / ret b"},
		{"proc 0 4 size 2 / store a a / ret b", "proc 0 3 size 2 / store a a / ret b"},
		{"proc -1 3 size 2 / store a a / ret b", "proc 0 0 size 2 / store a a / ret b"},
		{"proc -3 3 size 2 / call b 1 a / ret b / proc -2 3 size 1 / ret a", "proc -2 3 size 2 / call b 1 a / ret b / proc -2 3 size 1 / ret a"},
		{"proc -2 4 size 2 / call b 1 a / ret b / proc -2 3 size 1 / ret a", "proc -1 2 size 2 / call b 1 a / ret b / proc -2 3 size 1 / ret a"},
		{"proc 0 5 size 2 / assert b < a / ret b", "proc 1 5 size 2 / assert b < a / ret b"},
		{"proc -1 5 size 2 / assert b <= a / ret b", "proc 0 5 size 2 / assert b <= a / ret b"},
		{"proc 0 1 size 2 / assert b = a / ret b", "proc 0 0 size 2 / assert b = a / ret b"},
		{"proc 0 9 size 2 / assert b != a / ret b", "proc 1 9 size 2 / assert b != a / ret b"},
	} {
		can, cannot := linesIn(c.can), linesIn(c.cannot)
		if got := impl.SeqVerdict(can); !sameVerdict(got, alarms(spot(0, 0))) {
			t.Errorf("the verdict of %q is %+v", can, got)
		}
		if got := impl.SeqVerdict(cannot); !sameVerdict(got, safe()) {
			t.Errorf("the verdict of %q is %+v", cannot, got)
		}
	}
	// Steps of all other kinds never do, whatever comes.
	all := linesIn("proc -32768 32767 size 10 / add b a a / sub c a b / mul d b c / any a -32768 32767 / set b 32767 / if a < b 7 / jump 3 / mul a a b / if d != c 0 / ret d")
	if got := impl.SeqVerdict(all); !sameVerdict(got, safe()) || len(riskySites(all)) != 0 {
		t.Errorf("the verdict of %q is %+v", all, got)
	}
}

// Where each run fails what stands behind is not come to.
func TestAStepThatFailsInEachRun(t *testing.T) {
	checkSeqCases(t, []seqCase{
		{"proc 0 9 size 4 / div a a b / div a a b / load c a / ret a", 1 + 1 + 6, "may fail 0 0"},
		{"proc 0 9 size 4 / set b 4 / load c b / div a a d / ret a", 2 + 1 + 6, "may fail 0 1"},
		{"proc 0 9 size 4 / set b -1 / store b a / div a a d / ret a", 2 + 1 + 6, "may fail 0 1"},
		{"proc 0 9 size 4 / set b 5 / call c 1 b / div a a d / ret a / proc 6 9 size 1 / ret a", 2 + 1 + 6 + 9, "may fail 0 1"},
		{"proc 0 9 size 4 / assert a < b / div a a d / load d d / ret a", 1 + 1 + 6, "may fail 0 0"},
	})
	// Behind a loop that is always left.
	lines := linesIn("proc 0 0 size 8 / set b 3 / set c 1 / if b <= a 5 / add a a c / jump 2 / load d a / div d a d / ret d")
	p := read(t, lines...)
	if got := impl.SeqVerdict(lines); !sameVerdict(got, alarms(spot(0, 6))) {
		t.Errorf("the verdict of %q is %+v", lines, got)
	}
	if last := impl.RunMany(p, impl.RunNew(p, 0, 0), nil, mostFuel); !sameRun(last, failedAt(0, 6)) {
		t.Errorf("a run of %q comes to %+v", lines, last)
	}
}

// Alarms are told by procedures, whatever the order of parts, and of their papers.
func TestAlarmsOfSeveralParts(t *testing.T) {
	// 0 and 2 are a part, and 1 another one.
	mixed := "proc 0 9 size 4 / load b a / call b 1 a / call b 2 a / ret b / proc 0 8 size 3 / load b a / div b a a / ret b / proc 0 2 size 4 / if a = b 3 / div c a c / call c 0 a / ret b"
	// 0 and 3 are a part, 1 and 2 another one.
	nested := "proc 0 9 size 3 / call b 1 a / call b 3 a / ret b / proc 0 3 size 3 / call b 2 a / load c b / ret b / proc 0 2 size 4 / if a = b 3 / call c 1 a / div c a b / ret a / proc 0 1 size 4 / if a = b 3 / call c 0 a / assert a < b / ret a"
	// Parts are made from the last one to the first one.
	row := "proc 0 9 size 4 / load b a / call b 1 a / div b a a / ret b / proc 0 8 size 4 / load b a / call b 2 a / div b a a / ret b / proc 0 7 size 3 / load b a / div b a a / ret a"
	for _, c := range []struct{ text, told string }{
		{mixed, "may fail 0 0, may fail 0 2, may fail 1 0, may fail 1 1, may fail 2 1"},
		{nested, "may fail 0 0, may fail 0 1, may fail 1 0, may fail 2 2, may fail 3 2"},
		{row, "may fail 0 0, may fail 0 2, may fail 1 0, may fail 1 2, may fail 2 0, may fail 2 1"},
	} {
		lines := linesIn(c.text)
		if got := strings.Join(impl.VrdText(lines, impl.SeqVerdict(lines)), ", "); got != c.told {
			t.Errorf("of %q it is told %q, not %q", lines, got, c.told)
		}
		p := read(t, lines...)
		checkSeq(t, p)
		var full []cert
		for _, part := range impl.GrfParts(p) {
			full = append(full, fullCert(p, part))
		}
		if got, want := impl.VrdOf(p, full), alarms(riskySites(lines)...); !sameVerdict(got, want) {
			t.Errorf("of %q with everything everywhere the verdict is %+v, not %+v", lines, got, want)
		}
	}
}

// The document's example: nothing can fail. One number more, and something may.
func TestTheVerdictOfTheDocumentsExample(t *testing.T) {
	lines := linesIn("proc 0 3 size 6 / call b 1 a / set c 10 / assert b <= c / call d 2 b / div d c d / ret d / " +
		"proc 0 3 size 7 / set c 10 / if c <= b 5 / set d 1 / add b b d / jump 1 / assert b = c / ret b / " +
		"proc 0 10 size 3 / set b 1 / add a a b / ret a")
	for _, c := range []struct {
		at         int
		line, told string
	}{
		{0, "procs 3", "safe"},
		{16, "proc 0 10 size 3", "safe"},
		{16, "proc 0 9 size 3", "may fail 0 3"},
		{16, "proc -1 10 size 3", "may fail 0 4"},
		{1, "proc 0 4 size 6", "may fail 0 0"},
		{3, "set c 9", "may fail 0 2"},
		{19, "ret d", "may fail 0 4"},
		{5, "call d 3 b", "wrong 6"},
		{19, "ret e", "wrong 20"},
	} {
		text := with(lines, c.at, c.line)
		if got := strings.Join(impl.VrdText(text, impl.SeqVerdict(text)), ", "); got != c.told {
			t.Errorf("of %q it is told %q, not %q", text, got, c.told)
		}
	}
}

// SeqRounds is the rounds of all parts, one part or several, and of those parts alone.
func TestSeqRoundsIsTheRoundsOfAllParts(t *testing.T) {
	for _, c := range []seqCase{
		{"proc 0 0 size 3 / set c 1 / add a a c / jump 1", 21, ""},
		{"proc 0 0 size 3 / set c 1 / add a a c / jump 1 / proc 0 0 size 3 / set c 1 / add a a c / jump 1", 21, ""},
		{"proc 0 0 size 2 / call b 1 a / ret b / proc 0 0 size 3 / set c 1 / add a a c / jump 1", 8 + 21, ""},
		{"proc 0 0 size 3 / call b 1 a / call b 2 a / ret b / proc 0 0 size 3 / set c 1 / add a a c / jump 1 / proc 0 3 size 1 / ret a", 8 + 21 + 9, ""},
		{"proc 0 0 size 3 / call b 2 a / call b 1 a / ret b / proc 0 0 size 3 / set c 1 / add a a c / jump 1 / proc 0 3 size 1 / ret a", 9 + 21 + 9, ""},
		{"proc 0 0 size 4 / call b 1 a / call b 2 a / call b 3 a / ret b / proc 0 0 size 1 / ret a / proc 0 0 size 1 / ret a / proc 0 0 size 1 / ret a", 12 + 9 + 9 + 9, ""},
	} {
		if got := impl.SeqRounds(read(t, linesIn(c.text)...)); got != c.rounds {
			t.Errorf("SeqRounds of %q is %d, not %d", c.text, got, c.rounds)
		}
	}
}

// The same, whatever was asked before, and however many ask at once.
func TestOneMachineTellsTheSameEachTime(t *testing.T) {
	eachSeq(60, func(r *rand.Rand, p prog) {
		lines := linesOf(p)
		certs, rounds, v := impl.SeqCerts(p), impl.SeqRounds(p), impl.SeqVerdict(lines)
		same := make([]bool, 24)
		var all sync.WaitGroup
		for k := range same {
			all.Add(1)
			go func() {
				defer all.Done()
				same[k] = sameCerts(impl.SeqCerts(p), certs) && impl.SeqRounds(p) == rounds && sameVerdict(impl.SeqVerdict(lines), v)
			}()
		}
		all.Wait()
		if slices.Contains(same, false) {
			t.Fatalf("of %+v it is not the same each time", p)
		}
	})
}

// Behind a call nobody is at work any more, whatever it was asked of.
func TestNobodyIsLeftBehindPapers(t *testing.T) {
	was := runtime.NumGoroutine()
	eachSeq(200, func(r *rand.Rand, p prog) {
		impl.SeqCerts(p)
		impl.SeqRounds(p)
		impl.SeqVerdict(linesOf(p))
	})
	mustBeGone(t, was)
}
