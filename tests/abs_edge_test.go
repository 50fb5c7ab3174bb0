package tests

import (
	"testing"

	"loop.example/outwork/impl"
)

// absCase is a step, by its line, in a state; whether it may fail there; and where it leads to from place 4.
type absCase struct {
	line  string
	s     state
	fails bool
	want  []edge
}

func lineStep(t *testing.T, line string) ins {
	t.Helper()
	i, ok := impl.InsRead(line, mostProcs, mostSteps)
	if !ok {
		t.Fatalf("%q is no step", line)
	}
	return i
}

func checkAbsCases(t *testing.T, cases []absCase) {
	t.Helper()
	p, all := stateProgram(t)
	for _, c := range cases {
		i := lineStep(t, c.line)
		if got := impl.AbsFails(p, i, c.s); got != c.fails {
			t.Errorf("%s may fail in %+v: %v", c.line, c.s, got)
		}
		if got := impl.AbsStep(p, all, i, 4, c.s); !sameEdges(got, c.want) {
			t.Errorf("%s leads from %+v to %+v, not %+v", c.line, c.s, got, c.want)
		}
		checkAbs(t, p, all, i, 4, c.s)
	}
}

// next is what comes to the next place alone.
func next(a, b, c, d, cells bounds) []edge {
	return []edge{to(5, st(a, b, c, d, cells))}
}

func TestAbsStepOfWhatReckons(t *testing.T) {
	s := st(itv(0, 9), itv(3, 5), itv(-2, 2), itv(1, 1), itv(7, 7))
	x, y, z, w, cells := s.Vars[0], s.Vars[1], s.Vars[2], s.Vars[3], s.Cells
	checkAbsCases(t, []absCase{
		{"add d a b", s, false, next(x, y, z, itv(3, 14), cells)},
		{"add a a a", s, false, next(itv(0, 18), y, z, w, cells)},
		{"sub a a b", s, false, next(itv(-5, 6), y, z, w, cells)},
		{"sub b a b", s, false, next(x, itv(-5, 6), z, w, cells)},
		{"sub b b b", s, false, next(x, itv(-2, 2), z, w, cells)},
		{"mul c c c", s, false, next(x, y, itv(-4, 4), w, cells)},
		{"mul d b c", s, false, next(x, y, z, itv(-10, 10), cells)},
		{"set a -4", s, false, next(itv(-4, -4), y, z, w, cells)},
		{"any d -3 9", s, false, next(x, y, z, itv(-3, 9), cells)},
		{"any c -32768 32767", s, false, next(x, y, itv(least, greatest), w, cells)},
		{"add b a c", put(s, 0, itv(greatest, greatest)), false, next(itv(greatest, greatest), itv(least, greatest), z, w, cells)},
		{"add b a b", put(s, 0, itv(greatest, greatest)), false, next(itv(greatest, greatest), itv(least+2, least+4), z, w, cells)},
	})
}

// By bounds in which 0 is alone, at each end, inside, and not; with D, A and B one variable, two, and three.
func TestAbsStepOfQuotients(t *testing.T) {
	ten, cells := itv(10, 20), itv(7, 7)
	one := itv(1, 1)
	by := func(b bounds) state { return st(ten, b, one, one, cells) }
	checkAbsCases(t, []absCase{
		{"div c a b", by(itv(0, 0)), true, nil},
		{"div b a b", by(itv(0, 0)), true, nil},
		{"div b b b", by(itv(0, 0)), true, nil},
		{"div a b a", by(itv(0, 0)), false, next(itv(0, 0), itv(0, 0), one, one, cells)},
		{"div c a b", by(itv(0, 5)), true, next(ten, itv(1, 5), itv(2, 20), one, cells)},
		{"div c a b", by(itv(-5, 0)), true, next(ten, itv(-5, -1), itv(-20, -2), one, cells)},
		{"div c a b", by(itv(-5, 4)), true, next(ten, itv(-5, 4), itv(-20, 20), one, cells)},
		{"div c a b", by(itv(0, 1)), true, next(ten, one, ten, one, cells)},
		{"div c a b", by(itv(-1, 0)), true, next(ten, itv(-1, -1), itv(-20, -10), one, cells)},
		{"div c a b", by(itv(2, 5)), false, next(ten, itv(2, 5), itv(2, 10), one, cells)},
		{"div c a b", by(itv(-5, -1)), false, next(ten, itv(-5, -1), itv(-20, -2), one, cells)},
		{"div c a b", by(itv(1, 5)), false, next(ten, itv(1, 5), itv(2, 20), one, cells)},
		// D is A: B is cut all the same.
		{"div a a b", by(itv(0, 5)), true, next(itv(2, 20), itv(1, 5), one, one, cells)},
		{"div a a b", by(itv(-5, 0)), true, next(itv(-20, -2), itv(-5, -1), one, one, cells)},
		// D is B: what it is set to stays, even with 0 at an end.
		{"div b a b", by(itv(0, 5)), true, next(ten, itv(2, 20), one, one, cells)},
		{"div b c b", by(itv(0, 5)), true, next(ten, itv(0, 1), one, one, cells)},
		{"div b c b", by(itv(-5, 0)), true, next(ten, itv(-1, 0), one, one, cells)},
		{"div b c b", by(itv(2, 5)), false, next(ten, itv(0, 0), one, one, cells)},
		// A is B: D is reckoned of both as they were.
		{"div c b b", by(itv(0, 5)), true, next(ten, itv(1, 5), itv(0, 5), one, cells)},
		{"div c b b", by(itv(-5, 0)), true, next(ten, itv(-5, -1), itv(0, 5), one, cells)},
		{"div c b b", by(itv(-5, 5)), true, next(ten, itv(-5, 5), itv(-5, 5), one, cells)},
		{"div b b b", by(itv(0, 5)), true, next(ten, itv(0, 5), one, one, cells)},
		{"div b b b", by(itv(3, 3)), false, next(ten, one, one, one, cells)},
		{"div d a b", st(itv(least, least), itv(-1, 0), one, one, cells), true, next(itv(least, least), itv(-1, -1), one, itv(least, least), cells)},
		{"div d a b", st(itv(least, least+1), itv(-1, 0), one, one, cells), true, next(itv(least, least+1), itv(-1, -1), one, itv(least, greatest), cells)},
	})
}

// With A below 0, beyond the last cell, partly within, and within.
func TestAbsStepOfCells(t *testing.T) {
	one, cells := itv(1, 1), itv(7, 9)
	at := func(a bounds) state { return st(a, itv(-5, -4), one, one, cells) }
	low := itv(-5, -4)
	for _, c := range []struct {
		a     bounds
		fails bool
		left  bounds
		some  bool
	}{
		{itv(-9, -1), true, bounds{}, false}, {itv(least, -1), true, bounds{}, false}, {itv(4, 4), true, bounds{}, false}, {itv(4, greatest), true, bounds{}, false},
		{itv(-1, 0), true, itv(0, 0), true}, {itv(3, 4), true, itv(3, 3), true}, {itv(-1, 4), true, itv(0, 3), true}, {itv(least, greatest), true, itv(0, 3), true},
		{itv(2, 9), true, itv(2, 3), true}, {itv(-9, 1), true, itv(0, 1), true},
		{itv(0, 3), false, itv(0, 3), true}, {itv(0, 0), false, itv(0, 0), true}, {itv(3, 3), false, itv(3, 3), true}, {itv(1, 2), false, itv(1, 2), true},
	} {
		var load, same, store, other []edge
		if c.some {
			load = next(c.left, low, one, cells, cells)
			same = next(cells, low, one, one, cells)
			store = next(c.left, low, one, one, itv(-5, 9))
			// B is stored as it was, not as A is met.
			other = next(c.left, low, one, one, both(cells, c.a))
		}
		checkAbsCases(t, []absCase{
			{"load d a", at(c.a), c.fails, load},
			{"load a a", at(c.a), c.fails, same},
			{"store a b", at(c.a), c.fails, store},
			{"store a a", at(c.a), c.fails, other},
		})
	}
}

// A cell that is stored into may be another one than each: the cells keep what they were.
func TestAbsStepKeepsWhatCellsWere(t *testing.T) {
	one := itv(1, 1)
	checkAbsCases(t, []absCase{
		{"store c d", st(one, one, one, itv(8, 8), itv(7, 7)), false, next(one, one, one, itv(8, 8), itv(7, 8))},
		{"store c d", st(one, one, one, itv(-8, 3), itv(7, 7)), false, next(one, one, one, itv(-8, 3), itv(-8, 7))},
		{"store c d", st(one, one, one, itv(5, 6), itv(0, 9)), false, next(one, one, one, itv(5, 6), itv(0, 9))},
		{"store c d", st(one, one, one, itv(least, greatest), itv(0, 0)), false, next(one, one, one, itv(least, greatest), itv(least, greatest))},
		{"load b c", st(one, one, one, one, itv(least, greatest)), false, next(one, itv(least, greatest), one, one, itv(least, greatest))},
	})
}

// Procedure 0 may be given all, 1 3..5, 2 0 alone, and gives nothing, 3 -7..2.
func TestAbsStepOfCalls(t *testing.T) {
	nine, one, cells := itv(0, 9), itv(1, 1), itv(7, 7)
	of := func(a bounds) state { return st(a, one, one, one, cells) }
	many, all := itv(100, 200), itv(least, greatest)
	checkAbsCases(t, []absCase{
		{"call b 1 a", of(nine), true, next(itv(3, 5), many, one, one, cells)},
		{"call b 1 a", of(itv(4, 5)), false, next(itv(4, 5), many, one, one, cells)},
		{"call b 1 a", of(itv(3, 5)), false, next(itv(3, 5), many, one, one, cells)},
		{"call b 1 a", of(itv(3, 6)), true, next(itv(3, 5), many, one, one, cells)},
		{"call b 1 a", of(itv(2, 5)), true, next(itv(3, 5), many, one, one, cells)},
		{"call b 1 a", of(itv(5, 6)), true, next(itv(5, 5), many, one, one, cells)},
		{"call b 1 a", of(itv(6, 9)), true, nil},
		{"call b 1 a", of(itv(-9, 2)), true, nil},
		{"call a 1 a", of(nine), true, next(many, one, one, one, cells)},
		{"call a 1 a", of(itv(6, 6)), true, nil},
		{"call d 1 b", of(nine), true, nil},
		{"call b 0 a", of(all), false, next(all, itv(0, 0), one, one, cells)},
		{"call b 3 a", of(nine), true, next(itv(0, 2), all, one, one, cells)},
		// Procedure 2 gives nothing, whatever it is given.
		{"call b 2 a", of(itv(0, 0)), false, nil},
		{"call b 2 a", of(nine), true, nil},
		{"call a 2 a", of(itv(0, 0)), false, nil},
		{"call a 2 a", of(itv(4, 4)), true, nil},
	})
}

// checkAsked asks of an OpIf and an OpAssert what is left of a state as far as two stand so, and as far as they do not; nothing, where nothing is.
func checkAsked(t *testing.T, words string, s, so, not state, fails bool) {
	t.Helper()
	var yes, no, must []edge
	if so.On {
		yes, must = []edge{to(2, so)}, []edge{to(5, so)}
	}
	if not.On {
		no = []edge{to(5, not)}
	}
	checkAbsCases(t, []absCase{
		{"if " + words + " 2", s, false, append(yes, no...)},
		{"assert " + words, s, fails, must},
	})
}

// ask asks how a and d stand: what is left of both if they stand so, and if they do not.
func ask(t *testing.T, words string, a, d bounds, so, not [2]bounds, holds, fails bool) {
	t.Helper()
	with := func(parts [2]bounds, some bool) state {
		if !some {
			return state{}
		}
		return st(parts[0], itv(9, 9), itv(9, 9), parts[1], itv(7, 8))
	}
	checkAsked(t, words, with([2]bounds{a, d}, true), with(so, holds), with(not, fails), fails)
}

// Where both ways are open, one alone, and just the other one.
func TestAbsStepAsksHowTwoStand(t *testing.T) {
	none := [2]bounds{}
	two := func(a, b, c, d int) [2]bounds { return [2]bounds{itv(a, b), itv(c, d)} }
	ask(t, "a < d", itv(0, 9), itv(3, 5), two(0, 4, 3, 5), two(3, 9, 3, 5), true, true)
	ask(t, "a < d", itv(0, 2), itv(3, 5), two(0, 2, 3, 5), none, true, false)
	ask(t, "a < d", itv(5, 9), itv(3, 5), none, two(5, 9, 3, 5), false, true)
	ask(t, "a < d", itv(0, 3), itv(3, 5), two(0, 3, 3, 5), two(3, 3, 3, 3), true, true)
	ask(t, "a <= d", itv(0, 9), itv(3, 5), two(0, 5, 3, 5), two(4, 9, 3, 5), true, true)
	ask(t, "a <= d", itv(0, 3), itv(3, 5), two(0, 3, 3, 5), none, true, false)
	ask(t, "a <= d", itv(6, 9), itv(3, 5), none, two(6, 9, 3, 5), false, true)
	ask(t, "a <= d", itv(5, 9), itv(3, 5), two(5, 5, 5, 5), two(5, 9, 3, 5), true, true)
	ask(t, "a = d", itv(0, 4), itv(3, 5), two(3, 4, 3, 4), two(0, 4, 3, 5), true, true)
	ask(t, "a = d", itv(3, 3), itv(3, 3), two(3, 3, 3, 3), none, true, false)
	ask(t, "a = d", itv(0, 2), itv(3, 5), none, two(0, 2, 3, 5), false, true)
	ask(t, "a = d", itv(3, 3), itv(3, 5), two(3, 3, 3, 3), two(3, 3, 4, 5), true, true)
	ask(t, "a != d", itv(0, 4), itv(3, 5), two(0, 4, 3, 5), two(3, 4, 3, 4), true, true)
	ask(t, "a != d", itv(0, 2), itv(3, 5), two(0, 2, 3, 5), none, true, false)
	ask(t, "a != d", itv(3, 3), itv(3, 3), none, two(3, 3, 3, 3), false, true)
	ask(t, "a != d", itv(3, 5), itv(3, 3), two(4, 5, 3, 3), two(3, 3, 3, 3), true, true)
	// Said the other way round.
	ask(t, "d < a", itv(3, 5), itv(0, 9), two(3, 5, 0, 4), two(3, 5, 3, 9), true, true)
	ask(t, "d <= a", itv(3, 5), itv(0, 9), two(3, 5, 0, 5), two(3, 5, 4, 9), true, true)
}

// One variable on both sides is met with the first part, and then with the second one.
func TestAbsStepAsksHowOneStandsToItself(t *testing.T) {
	with := func(b bounds, some bool) state {
		if !some {
			return state{}
		}
		return st(itv(9, 9), b, itv(9, 9), itv(9, 9), itv(7, 8))
	}
	both := func(words string, b, so, not bounds, holds, other, fails bool) {
		t.Helper()
		checkAsked(t, words, with(b, true), with(so, holds), with(not, other), fails)
	}
	none := bounds{}
	both("b < b", itv(0, 9), itv(1, 8), itv(0, 9), true, true, true)
	both("b < b", itv(0, 2), itv(1, 1), itv(0, 2), true, true, true)
	// Of two numbers a part is left each, but nothing of both; of one number nothing stands so.
	both("b < b", itv(0, 1), none, itv(0, 1), false, true, true)
	both("b < b", itv(4, 4), none, itv(4, 4), false, true, true)
	both("b <= b", itv(0, 9), itv(0, 9), itv(1, 8), true, true, true)
	both("b <= b", itv(0, 1), itv(0, 1), none, true, false, true)
	both("b <= b", itv(4, 4), itv(4, 4), none, true, false, false)
	both("b = b", itv(0, 9), itv(0, 9), itv(0, 9), true, true, true)
	both("b = b", itv(4, 4), itv(4, 4), none, true, false, false)
	both("b != b", itv(0, 9), itv(0, 9), itv(0, 9), true, true, true)
	both("b != b", itv(4, 4), none, itv(4, 4), false, true, true)
}

// That it holds of each number is not seen where one variable stands on both sides, but for one number alone.
func TestAbsFailsOfOneVariable(t *testing.T) {
	p, _ := stateProgram(t)
	for _, c := range []struct {
		line string
		a    bounds
		want bool
	}{
		{"assert a <= a", itv(0, 1), true}, {"assert a <= a", itv(1, 1), false},
		{"assert a = a", itv(0, 1), true}, {"assert a = a", itv(1, 1), false},
		{"assert a < a", itv(0, 1), true}, {"assert a < a", itv(1, 1), true},
		{"assert a != a", itv(0, 1), true}, {"assert a != a", itv(1, 1), true},
	} {
		s := st(c.a, itv(0, 0), itv(0, 0), itv(0, 0), itv(0, 0))
		if got := impl.AbsFails(p, lineStep(t, c.line), s); got != c.want {
			t.Errorf("%s may fail with %v: %v", c.line, c.a, got)
		}
	}
}

// Where To is the next place both ways are told, one by one: they are not joined.
func TestAbsStepToTheNextPlace(t *testing.T) {
	one, cells := itv(1, 1), itv(7, 7)
	s := st(itv(0, 9), itv(3, 5), one, one, cells)
	checkAbsCases(t, []absCase{
		{"if a < b 5", s, false, []edge{to(5, st(itv(0, 4), itv(3, 5), one, one, cells)), to(5, st(itv(3, 9), itv(3, 5), one, one, cells))}},
		{"if c = d 5", s, false, []edge{to(5, s)}},
		{"if c != d 5", s, false, []edge{to(5, s)}},
		{"jump 5", s, false, []edge{to(5, s)}},
		{"jump 4", s, false, []edge{to(4, s)}},
		{"if c = d 4", s, false, []edge{to(4, s)}},
		{"ret a", s, false, nil},
		{"ret d", s, false, nil},
	})
}

// From the first and the last place, one below 0, one beyond the last, and others.
func TestAbsStepFromEachPlace(t *testing.T) {
	p, all := stateProgram(t)
	s := st(itv(0, 9), itv(3, 5), itv(1, 1), itv(1, 1), itv(7, 7))
	for _, line := range []string{"add c a b", "div a a b", "any a 0 3", "load a c", "store c a", "call a 1 b", "assert a < b"} {
		for _, pc := range places() {
			got := impl.AbsStep(p, all, lineStep(t, line), pc, s)
			if is := pc >= 0 && pc <= 9; is != (len(got) == 1) || is && got[0].To != pc+1 {
				t.Errorf("%s leads from %d to %+v", line, pc, got)
			}
			checkAbs(t, p, all, lineStep(t, line), pc, s)
		}
	}
	for _, pc := range places() {
		jump := impl.AbsStep(p, all, lineStep(t, "jump 9"), pc, s)
		ways := impl.AbsStep(p, all, lineStep(t, "if a < b 0"), pc, s)
		if pc < 0 || pc > 9 {
			if len(jump) != 0 || len(ways) != 0 {
				t.Errorf("from %d it leads to %+v and %+v", pc, jump, ways)
			}
			continue
		}
		if len(jump) != 1 || jump[0].To != 9 || len(ways) != 2 || ways[0].To != 0 || ways[1].To != pc+1 {
			t.Errorf("from %d it leads to %+v and %+v", pc, jump, ways)
		}
	}
}

// Where a step stands is not asked: a program of one step each leads as far as the longest could.
func TestAbsStepBeyondTheProgramsOwnSteps(t *testing.T) {
	p := read(t, "procs 1", "proc 0 9 size 1", "ret a")
	s := impl.AbsEntry(p.Procs[0])
	got := impl.AbsStep(p, []sum{{}}, ins{Op: impl.OpJump, To: 9}, 9, s)
	if !sameEdges(got, []edge{to(9, s)}) {
		t.Errorf("jump 9 leads to %+v", got)
	}
	for _, bad := range []ins{{Op: impl.OpJump, To: 10}, {Op: impl.OpIf, Rel: 1, To: 10}, {Op: impl.OpJump, To: -1}} {
		if got := impl.AbsStep(p, []sum{{}}, bad, 0, s); len(got) != 0 {
			t.Errorf("%+v leads to %+v", bad, got)
		}
	}
}
