package tests

import (
	"math"
	"testing"

	"loop.example/outwork/impl"
)

func TestEngConstants(t *testing.T) {
	for _, c := range [][2]int{{impl.EngGrows, 1}, {impl.EngShrinks, 2}, {impl.EngDone, 3}, {impl.EngPlain, 2}, {impl.EngBack, 6}} {
		if c[0] != c[1] {
			t.Errorf("%d should be %d", c[0], c[1])
		}
	}
}

// checkMade asks what an engine makes of a part, and how many rounds that takes.
func checkMade(t *testing.T, p prog, all []sum, part []int, rounds int, lines ...string) {
	t.Helper()
	want := paperOf(t, lines...)
	got, took := impl.EngRun(p, all, part)
	if !sameCert(got, want) || took != rounds {
		t.Errorf("behind %d rounds, not %d, there is %+v, not %+v", took, rounds, got, want)
	}
	if took != checkEngRun(t, p, all, part) {
		t.Errorf("%d rounds were not EngStep so often", took)
	}
}

// Growing takes a round for all that comes anew, and one in which nothing does; shrinking takes six.
func TestEngRunOfFewSteps(t *testing.T) {
	one := make([]sum, 1)
	checkMade(t, read(t, "procs 1", "proc 0 3 size 1", "ret a"), one, []int{0}, 2+1+6, "0..3 0 0 0 0", "gives 0..3")
	checkMade(t, read(t, "procs 1", "proc 7 7 size 1", "ret d"), one, []int{0}, 2+1+6, "7 0 0 0 0", "gives 0")
	checkMade(t, read(t, "procs 1", "proc -2 2 size 1", "jump 0"), one, []int{0}, 1+1+6, "-2..2 0 0 0 0", "gives -")
	checkMade(t, read(t, "procs 1", "proc 0 3 size 3", "set b 1", "add a a b", "ret a"), one, []int{0}, 4+1+6,
		"0..3 0 0 0 0", "0..3 1 0 0 0", "1..4 1 0 0 0", "gives 1..4")
	checkMade(t, read(t, "procs 1", "proc 0 3 size 3", "jump 2", "ret b", "ret a"), one, []int{0}, 3+1+6,
		"0..3 0 0 0 0", "-", "0..3 0 0 0 0", "gives 0..3")
	// What cannot go on gives nothing.
	checkMade(t, read(t, "procs 1", "proc 0 3 size 2", "div a a b", "ret a"), one, []int{0}, 1+1+6, "0..3 0 0 0 0", "-", "gives -")
	checkMade(t, read(t, "procs 1", "proc 0 3 size 3", "if a < b 2", "ret c", "ret a"), one, []int{0}, 3+1+6,
		"0..3 0 0 0 0", "0..3 0 0 0 0", "-", "gives 0")
}

// Of several the engine goes on until the last one has nothing new.
func TestEngRunOfSeveral(t *testing.T) {
	p := read(t, "procs 3",
		"proc 0 3 size 2", "call b 1 a", "ret b",
		"proc 0 9 size 1", "ret a",
		"proc 1 5 size 2", "call a 0 a", "ret a")
	none := make([]sum, 3)
	checkMade(t, p, none, []int{0}, 1+1+6, "0..3 0 0 0 0", "-", "gives -")
	checkMade(t, p, []sum{{}, gives(8, 9), {}}, []int{0}, 3+1+6, "0..3 0 0 0 0", "0..3 8..9 0 0 0", "gives 8..9")
	checkMade(t, p, none, []int{1}, 2+1+6, "0..9 0 0 0 0", "gives 0..9")
	// By the paper's own sums, not by those that are handed in.
	for _, all := range [][]sum{none, {gives(1, 1), gives(2, 2), gives(3, 3)}} {
		checkMade(t, p, all, []int{0, 1}, 4+1+6, "0..3 0 0 0 0", "0..3 0..9 0 0 0", "gives 0..9", "0..9 0 0 0 0", "gives 0..9")
		checkMade(t, p, all, []int{0, 1, 2}, 6+1+6, "0..3 0 0 0 0", "0..3 0..9 0 0 0", "gives 0..9", "0..9 0 0 0 0", "gives 0..9", "1..5 0 0 0 0", "0..9 0 0 0 0", "gives 0..9")
	}
	// None of these two calls the other one.
	checkMade(t, p, []sum{gives(-1, 1), {}, {}}, []int{1, 2}, 3+1+6, "0..9 0 0 0 0", "gives 0..9", "1..5 0 0 0 0", "-1..1 0 0 0 0", "gives -1..1")
}

// One that calls itself gives nothing until a call of it does not.
func TestEngRunOfWhoCallsItself(t *testing.T) {
	for _, all := range [][]sum{{{}}, {gives(5, 5)}} {
		checkMade(t, read(t, "procs 1", "proc 0 9 size 2", "call b 0 a", "ret b"), all, []int{0}, 1+1+6, "0..9 0 0 0 0", "-", "gives -")
		checkMade(t, read(t, "procs 1", "proc 0 9 size 4", "if a <= b 3", "call c 0 a", "ret c", "ret d"), all, []int{0}, 4+1+6,
			"0..9 0 0 0 0", "1..9 0 0 0 0", "1..9 0 0 0 0", "0 0 0 0 0", "gives 0")
	}
	// Each call gives one more than that in it: what it gives grows by steps, and beyond the greatest number.
	p := read(t, "procs 1", "proc 0 9 size 7", "if a <= b 6", "set d 1", "sub a a d", "call c 0 a", "add c c d", "ret c", "ret b")
	c, took := impl.EngRun(p, []sum{{}}, []int{0})
	if c.Outs[0] != gives(least, greatest) || took != checkEngRun(t, p, []sum{{}}, []int{0}) || took < 20 {
		t.Errorf("behind %d rounds it gives %+v", took, c.Outs)
	}
}

// Of the document's example: procedure 1 gives just 10, procedure 2 at least 1, and nothing may fail.
func TestTheDocumentsExample(t *testing.T) {
	p := read(t, "procs 3",
		"proc 0 3 size 6", "call b 1 a", "set c 10", "assert b <= c", "call d 2 b", "div d c d", "ret d",
		"proc 0 3 size 7", "set c 10", "if c <= b 5", "set d 1", "add b b d", "jump 1", "assert b = c", "ret b",
		"proc 0 10 size 3", "set b 1", "add a a b", "ret a")
	all := make([]sum, 3)
	for _, k := range []int{1, 2, 0} {
		part := []int{k}
		c, _ := impl.EngRun(p, all, part)
		if told := impl.CrtAlarms(p, part, c); len(told) != 0 {
			t.Errorf("%v may fail with %+v", told, c)
		}
		all = impl.CrtSums(p, all, part, c)
	}
	if all[1] != gives(10, 10) || all[2] != gives(1, 11) || all[0] != gives(0, 10) {
		t.Errorf("they give %+v", all)
	}
}

// checkTrace asks what an engine is behind each round, from one on: each row is the phase, the Round, and the paper's lines.
func checkTrace(t *testing.T, p prog, e engine, rows []engine) {
	t.Helper()
	for k, want := range rows {
		e = checkEngStep(t, p, make([]sum, len(p.Procs)), []int{0}, e)
		if !sameEngine(e, want) {
			t.Fatalf("behind round %d there is %+v, not %+v", k+1, e, want)
		}
	}
}

// From the beginning on, step by step: up to the greatest number, and around to the least one.
func TestEngStepGrowsBySteps(t *testing.T) {
	p := read(t, "procs 1", "proc 0 0 size 3", "set c 1", "add a a c", "jump 1")
	at := func(phase, round int, first, second string) engine {
		state := func(a string) string {
			if a == "-" {
				return a
			}
			return a + " 0 1 0 0"
		}
		return engine{Phase: phase, Round: round, Cert: paperOf(t, "0 0 0 0 0", state(first), state(second), "gives -")}
	}
	all := "-32768..32767"
	rows := []engine{
		at(grows, 1, "-", "-"), at(grows, 2, "0", "-"), at(grows, 2, "0", "1"),
		at(grows, 2, "0..1", "1"), at(grows, 2, "0..1", "1..10"),
		at(grows, 2, "0..10", "1..10"), at(grows, 2, "0..10", "1..100"),
		at(grows, 2, "0..100", "1..100"), at(grows, 2, "0..100", "1..1000"),
		at(grows, 2, "0..1000", "1..1000"), at(grows, 2, "0..1000", "1..32767"),
		at(grows, 2, "0..32767", "1..32767"), at(grows, 2, "0..32767", all),
		at(grows, 2, all, all), at(shrinks, 0, all, all),
		at(shrinks, 1, all, all), at(shrinks, 2, all, all), at(shrinks, 3, all, all), at(shrinks, 4, all, all), at(shrinks, 5, all, all),
		at(isDone, 0, all, all), at(isDone, 0, all, all), at(isDone, 0, all, all),
	}
	checkTrace(t, p, impl.EngNew(p, []int{0}), rows)
	checkMade(t, p, []sum{{}}, []int{0}, 21, "0 0 0 0 0", all+" 0 1 0 0", all+" 0 1 0 0", "gives -")
}

// Down to the least number, and around to the greatest one.
func TestEngStepGrowsDownwards(t *testing.T) {
	p := read(t, "procs 1", "proc -5 -5 size 3", "set c 3", "sub a a c", "jump 1")
	e := impl.EngNew(p, []int{0})
	for _, want := range []string{"-", "-5", "-5", "-10..-5", "-10..-5", "-100..-5", "-100..-5", "-1000..-5", "-1000..-5", "-32768..-5", "-32768..-5", "-32768..32767", "-32768..32767"} {
		e = checkEngStep(t, p, []sum{{}}, []int{0}, e)
		if want != "-" {
			want += " 0 3 0 0"
		}
		if got := e.Cert.States[0][1]; !sameState(got, stateIn(t, want)) {
			t.Fatalf("it is %+v, not %s", got, want)
		}
	}
}

// In Rounds below EngPlain what comes is joined plainly; in the one behind them it is grown by steps, and so it is from then on.
func TestEngStepBehindThePlainRounds(t *testing.T) {
	p := read(t, "procs 1", "proc -5 25 size 2", "jump 1", "ret a")
	paper := func(second, gives string) cert {
		return paperOf(t, "-5..25 0 0 0 0", second+" 0 0 0 0", "gives "+gives)
	}
	was := paper("0..2", "1")
	for round, want := range []engine{
		{Phase: grows, Round: 1, Cert: paper("-5..25", "0..2")},
		{Phase: grows, Round: 2, Cert: paper("-5..25", "0..2")},
		{Phase: grows, Round: 2, Cert: paper("-10..100", "0..10")},
	} {
		checkTrace(t, p, engine{Phase: grows, Round: round, Cert: was}, []engine{want})
	}
	// Plainly for two rounds, then by steps; what is on the paper stays, though nothing leads to it.
	wide := paper("-7..25", "0..10")
	checkTrace(t, p, engine{Phase: grows, Cert: paper("-7..2", "0..2")}, []engine{
		{Phase: grows, Round: 1, Cert: paper("-7..25", "-7..2")},
		{Phase: grows, Round: 2, Cert: paper("-7..25", "-7..25")},
		{Phase: shrinks, Round: 0, Cert: paper("-7..25", "-7..25")},
		{Phase: shrinks, Round: 1, Cert: paper("-5..25", "-7..25")},
		{Phase: shrinks, Round: 2, Cert: paper("-5..25", "-5..25")},
		{Phase: shrinks, Round: 3, Cert: paper("-5..25", "-5..25")},
	})
	checkTrace(t, p, engine{Phase: grows, Round: 1, Cert: wide}, []engine{
		{Phase: grows, Round: 2, Cert: paper("-7..25", "-7..25")},
		{Phase: shrinks, Round: 0, Cert: paper("-7..25", "-7..25")},
	})
	checkTrace(t, p, engine{Phase: grows, Round: 2, Cert: wide}, []engine{
		{Phase: grows, Round: 2, Cert: paper("-7..25", "-10..100")},
		{Phase: shrinks, Round: 0, Cert: paper("-7..25", "-10..100")},
		{Phase: shrinks, Round: 1, Cert: paper("-5..25", "-7..25")},
	})
}

// Where nothing is new the paper stays, whatever the Round; so it does when it is done.
func TestEngStepWhereNothingIsNew(t *testing.T) {
	p := read(t, "procs 1", "proc 0 3 size 2", "jump 1", "ret a")
	right := paperOf(t, "0..3 0 0 0 0", "-9..9 0 0 0 0", "gives -9..9")
	for round := range plainRounds + 1 {
		checkTrace(t, p, engine{Phase: grows, Round: round, Cert: right}, []engine{{Phase: shrinks, Cert: right}})
	}
	checkTrace(t, p, engine{Phase: isDone, Cert: right}, []engine{{Phase: isDone, Cert: right}, {Phase: isDone, Cert: right}})
	// It is done with a paper that is not right, too, and does not look.
	start := impl.CrtStart(p, []int{0})
	checkTrace(t, p, engine{Phase: isDone, Cert: start}, []engine{{Phase: isDone, Cert: start}})
	checkTrace(t, p, engine{Phase: shrinks, Round: 4, Cert: start}, []engine{
		{Phase: shrinks, Round: 5, Cert: paperOf(t, "0..3 0 0 0 0", "-", "gives -")},
		{Phase: isDone, Cert: paperOf(t, "0..3 0 0 0 0", "0..3 0 0 0 0", "gives -")},
		{Phase: isDone, Cert: paperOf(t, "0..3 0 0 0 0", "0..3 0 0 0 0", "gives -")},
	})
}

// counting is a program that counts from 0 up to a number; behind the loop there is just that, for what has grown by steps shrinks again.
func counting(t *testing.T, n string) prog {
	return read(t, "procs 1", "proc 0 0 size 6", "set b "+n, "set c 1", "if b <= a 5", "add a a c", "jump 2", "ret a")
}

func TestEngRunOfLoopsThatShrinkAgain(t *testing.T) {
	for _, c := range []struct{ n, head, below, behind string }{
		{"1", "0..1", "0", "1"}, {"5", "0..5", "0..4", "1..5"}, {"9", "0..9", "0..8", "1..9"}, {"10", "0..10", "0..9", "1..10"}, {"11", "0..11", "0..10", "1..11"},
		{"50", "0..50", "0..49", "1..50"}, {"100", "0..100", "0..99", "1..100"}, {"101", "0..101", "0..100", "1..101"}, {"500", "0..500", "0..499", "1..500"},
		{"1000", "0..1000", "0..999", "1..1000"}, {"1001", "0..1001", "0..1000", "1..1001"},
		// What is below these grows to the greatest number, and one more is around at the least one; from there it shrinks by few numbers only.
		{"1002", "-32766..1002", "-32767..1001", "-32766..1002"}, {"2000", "-32766..2000", "-32767..1999", "-32766..2000"}, {"32767", "-32766..32767", "-32767..32766", "-32766..32767"},
	} {
		p := counting(t, c.n)
		got, _ := impl.EngRun(p, []sum{{}}, []int{0})
		want := paperOf(t, "0 0 0 0 0", "0 "+c.n+" 0 0 0", c.head+" "+c.n+" 1 0 0", c.below+" "+c.n+" 1 0 0", c.behind+" "+c.n+" 1 0 0", c.n+" "+c.n+" 1 0 0", "gives "+c.n)
		if !sameCert(got, want) {
			t.Errorf("up to %s the engine makes %+v", c.n, got)
		}
		checkEngRun(t, p, []sum{{}}, []int{0})
	}
	// To none at all: the loop is not come to.
	checkMade(t, counting(t, "0"), []sum{{}}, []int{0}, 5+1+6, "0 0 0 0 0", "0 0 0 0 0", "0 0 1 0 0", "-", "-", "0 0 1 0 0", "gives 0")
}

// Of a loop that is longer by some steps what has grown does not shrink all the way: six rounds are not enough for it.
func TestEngRunShrinksForSixRoundsOnly(t *testing.T) {
	p := read(t, "procs 1", "proc 0 0 size 9", "set b 50", "set c 1", "if b <= a 8", "add a a c", "jump 5", "jump 6", "jump 7", "jump 2", "ret a")
	c, took := impl.EngRun(p, []sum{{}}, []int{0})
	e := impl.EngNew(p, []int{0})
	for e.Phase == grows {
		e = impl.EngStep(p, []sum{{}}, []int{0}, e)
	}
	grown := e.Cert
	if grown.Outs[0] != gives(50, 1000) || c.Outs[0] == gives(50, 50) || !impl.CrtIn(p, []int{0}, c, grown) || impl.CrtIn(p, []int{0}, grown, c) {
		t.Errorf("grown it gives %+v, and behind %d rounds %+v", grown.Outs, took, c.Outs)
	}
	for range 6 {
		c = impl.CrtFlow(p, []sum{{}}, []int{0}, c)
	}
	if c.Outs[0] != gives(50, 50) {
		t.Errorf("behind six rounds more it would give %+v", c.Outs)
	}
}

// EngNew and EngOk of each phase and Round, and of others.
func TestEngOkByPhaseAndRound(t *testing.T) {
	p := read(t, "procs 2", "proc 0 3 size 2", "jump 1", "ret a", "proc 0 3 size 1", "ret a")
	for _, part := range anyParts(2) {
		begun := impl.EngNew(p, part)
		if !sameEngine(begun, engine{Phase: grows, Cert: startOf(p, part)}) {
			t.Errorf("EngNew of %v is %+v", part, begun)
		}
		for _, phase := range []int{math.MinInt, -1, 0, 1, 2, 3, 4, 5, math.MaxInt} {
			for _, round := range []int{math.MinInt, -2, -1, 0, 1, 2, 3, 4, 5, 6, 7, 100, math.MaxInt} {
				for _, c := range []cert{startOf(p, part), fullCert(p, part), {}} {
					e := engine{Phase: phase, Round: round, Cert: c}
					checkEngOk(t, p, part, e)
				}
			}
		}
	}
}

func checkEngOk(t *testing.T, p prog, part []int, e engine) {
	t.Helper()
	is := isEngine(p, part, e)
	if impl.EngOk(p, part, e) != is {
		t.Fatalf("EngOk(%+v, %v, %+v) is %v", p, part, e, !is)
	}
	all := make([]sum, len(p.Procs))
	if is {
		checkEngStep(t, p, all, part, e)
	} else if got := impl.EngStep(p, all, part, e); !sameEngine(got, engine{}) {
		t.Fatalf("EngStep(%+v, %v, %+v) is %+v", p, part, e, got)
	}
}
