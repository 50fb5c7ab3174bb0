package tests

import (
	"fmt"
	"math/rand"
	"reflect"
	"regexp"
	"slices"
	"strings"
	"testing"

	"loop.example/outwork/impl"
)

var (
	procsForm = regexp.MustCompile(`\Aprocs ([1-4])\z`)
	headForm  = regexp.MustCompile(`\Aproc ` + numForm + ` ` + numForm + ` size ([1-9]|10)\z`)
)

// firstWrong is what PrgParse should tell of lines, by their forms, without a program: one line is looked at behind the other, by what was told ahead of it.
func firstWrong(lines []string) int {
	at := 0
	next := func() string {
		at++
		if at > len(lines) {
			return "(none)"
		}
		return lines[at-1]
	}
	n, ok := numbersIn(procsForm, next(), 1)
	if !ok {
		return at
	}
	for range n[0] {
		head, ok := numbersIn(headForm, next(), 1, 2, 3)
		if !ok || !isNumber(head[0]) || !isNumber(head[1]) || head[0] > head[1] {
			return at
		}
		for left := head[2] - 1; left >= 0; left-- {
			s := next()
			ends := strings.HasPrefix(s, "ret ") || strings.HasPrefix(s, "jump ")
			if !isStepText(s, n[0], head[2]) || left == 0 && !ends {
				return at
			}
		}
	}
	if at < len(lines) {
		return at + 1
	}
	return 0
}

// linesOf is what PrgPrint should tell of a program that is ok.
func linesOf(p prog) []string {
	out := []string{fmt.Sprintf("procs %d", len(p.Procs))}
	for _, c := range p.Procs {
		out = append(out, fmt.Sprintf("proc %d %d size %d", c.Lo, c.Hi, len(c.Code)))
		for _, i := range c.Code {
			out = append(out, textOf(i))
		}
	}
	return out
}

// checkParse asks for the line that is told, and for what the promises say beside it, and beside none.
func checkParse(t *testing.T, lines []string) {
	t.Helper()
	p, wrong := impl.PrgParse(lines)
	if want := firstWrong(lines); wrong != want {
		t.Fatalf("PrgParse(%q) tells %d, not %d", lines, wrong, want)
	}
	if wrong != 0 {
		if len(p.Procs) != 0 {
			t.Fatalf("PrgParse(%q) = %+v, beside the line %d", lines, p, wrong)
		}
		checkFirst(t, lines, wrong)
		return
	}
	if !impl.PrgOk(p) {
		t.Fatalf("PrgParse(%q) = %+v, which is not ok", lines, p)
	}
	if got := impl.PrgPrint(p); !slices.Equal(got, lines) {
		t.Fatalf("PrgParse(%q) has the text %q", lines, got)
	}
}

// checkFirst holds a line that is told against what is told of the lines up to it, and of those ahead of it.
func checkFirst(t *testing.T, lines []string, wrong int) {
	t.Helper()
	if wrong < 1 || wrong > len(lines)+1 {
		t.Fatalf("PrgParse(%q) tells %d", lines, wrong)
	}
	if _, again := impl.PrgParse(lines[:min(wrong, len(lines))]); again != wrong {
		t.Fatalf("of the lines up to %d of %q %d is told", wrong, lines, again)
	}
	if _, ahead := impl.PrgParse(lines[:wrong-1]); ahead != wrong && ahead != 0 {
		t.Fatalf("of the lines ahead of %d of %q %d is told", wrong, lines, ahead)
	}
}

// drawn is a program that is ok, with steps drawn by a source that always draws the same.
func drawn(r *rand.Rand, procs int, most int) prog {
	p := prog{}
	for range procs {
		size := 1 + r.Intn(most)
		c := proc{Lo: least + r.Intn(65536)}
		c.Hi = c.Lo + r.Intn(greatest-c.Lo+1)
		for range size - 1 {
			c.Code = append(c.Code, drawnStep(r, 1+r.Intn(12), procs, size))
		}
		last := []int{impl.OpRet, impl.OpJump}[r.Intn(2)]
		p.Procs = append(p.Procs, proc{Lo: c.Lo, Hi: c.Hi, Code: append(c.Code, drawnStep(r, last, procs, size))})
	}
	return p
}

func drawnStep(r *rand.Rand, op, procs, size int) ins {
	to := r.Intn(size)
	if op == impl.OpCall {
		to = r.Intn(procs)
	}
	lo := least + r.Intn(65536)
	of := []bounds{itv(lo, lo+r.Intn(greatest-lo+1)), itv(lo, lo), itv(-r.Intn(5), r.Intn(5))}[r.Intn(3)]
	all := spread(op, upTo(4), []int{1, 2, 3, 4}, []int{to}, []bounds{of})
	return all[r.Intn(len(all))]
}

// drawnPrograms are some of each number of procedures, beside those of somePrograms.
func drawnPrograms(many int) []prog {
	r := rand.New(rand.NewSource(20))
	out := somePrograms()
	for k := range many {
		out = append(out, drawn(r, 1+k%mostProcs, mostSteps))
	}
	return out
}

func TestPromise31AProgramsTextIsReadAsIt(t *testing.T) {
	for _, p := range drawnPrograms(2000) {
		lines := impl.PrgPrint(p)
		if !slices.Equal(lines, linesOf(p)) {
			t.Fatalf("PrgPrint(%+v) = %q", p, lines)
		}
		got, wrong := impl.PrgParse(lines)
		if wrong != 0 || !reflect.DeepEqual(got, p) {
			t.Fatalf("PrgParse(%q) = %+v, %d", lines, got, wrong)
		}
	}
}

func TestEachStepInAProgram(t *testing.T) {
	for _, i := range okSteps(2, 3) {
		p := prog{Procs: []proc{
			{Hi: 3, Code: []ins{i, i, {Op: impl.OpRet}}},
			{Lo: least, Hi: least, Code: []ins{{Op: impl.OpRet}, i, {Op: impl.OpJump}}},
		}}
		mustBeOk(t, p)
		got, wrong := impl.PrgParse(impl.PrgPrint(p))
		if wrong != 0 || !reflect.DeepEqual(got, p) {
			t.Fatalf("PrgParse of PrgPrint(%+v) = %+v, %d", p, got, wrong)
		}
	}
}

func TestPrgPrintOfAProgram(t *testing.T) {
	p := prog{Procs: []proc{
		{Lo: 0, Hi: 3, Code: []ins{{Op: impl.OpCall, D: 1, To: 1}, {Op: impl.OpIf, Rel: impl.RelOther, A: 1, B: 0, To: 0}, {Op: impl.OpRet, A: 1}}},
		{Lo: -7, Hi: -7, Code: []ins{{Op: impl.OpJump}}},
	}}
	want := []string{"procs 2", "proc 0 3 size 3", "call b 1 a", "if b != a 0", "ret b", "proc -7 -7 size 1", "jump 0"}
	if got := impl.PrgPrint(p); !slices.Equal(got, want) {
		t.Errorf("PrgPrint = %q", got)
	}
	checkParse(t, want)
}

// otherLines are what a line may be turned into: lines that are right elsewhere, and lines that are right nowhere.
func otherLines() []string {
	return []string{
		"", " ", "procs 0", "procs 1", "procs 2", "procs 4", "procs 5", "procs 01", "procs -1", "procs +1", "procs x", "procs", "procs ", "procs 1 1", "procs 65537",
		"proc 0 3 size 1", "proc 0 3 size 2", "proc 0 3 size 10", "proc 0 3 size 0", "proc 0 3 size 11", "proc 0 3 size 01", "proc 0 3 size -1",
		"proc 3 0 size 1", "proc 0 0 size 1", "proc -32768 32767 size 1", "proc -32769 0 size 1", "proc 0 32768 size 1", "proc 00 3 size 1", "proc -0 3 size 1",
		"proc 0 3 size", "proc 0 3 1", "proc 0 size 1", "proc 0 3 sizes 1", "proc 0 3 size 1 1", "proc 0..3 size 1", "proc  3 size 1", "prog 0 3 size 1", "size 1",
		"ret a", "ret b", "ret e", "ret a ", " ret a", "jump 0", "jump 1", "jump 2", "jump 9", "jump 10", "add a b c", "add a b", "any a 1 5", "any a 5 5", "set a 5",
		"load a b", "store a b", "if a < b 0", "if a < b 1", "if a < b 9", "if a > b 0", "call a 0 b", "call a 1 b", "call a 3 b", "call a 4 b", "assert a = b",
		longLines(mostLine)[0], longLines(mostLine + 1)[0], longLines(mostLine)[3], longLines(mostLine + 1)[3], "\x00", "ret \xff",
	}
}

// someTexts are right, short and long.
func someTexts() [][]string {
	return [][]string{
		{"procs 1", "proc 0 3 size 1", "ret a"},
		{"procs 1", "proc 0 3 size 3", "any b 1 5", "div c a b", "ret c"},
		{"procs 2", "proc 0 0 size 2", "call a 1 b", "jump 0", "proc -5 5 size 1", "ret d"},
		linesOf(program(2, 1, 3, 1)),
		linesOf(program(mostSteps)),
	}
}

func with(lines []string, at int, s string) []string {
	out := slices.Clone(lines)
	out[at] = s
	return out
}

func TestPromise33OneLineIsWrong(t *testing.T) {
	for _, lines := range someTexts() {
		checkParse(t, lines)
		for k := range lines {
			for _, s := range otherLines() {
				checkParse(t, with(lines, k, s))
				checkParse(t, slices.Insert(slices.Clone(lines), k, s))
				checkParse(t, append(slices.Clone(lines), s))
			}
			for _, s := range bends(lines[k]) {
				checkParse(t, with(lines, k, s))
			}
			checkParse(t, slices.Delete(slices.Clone(lines), k, k+1))
			checkParse(t, slices.Insert(slices.Clone(lines), k, lines[k]))
			checkParse(t, lines[:k])
			checkParse(t, lines[k:])
		}
	}
}

func TestPromise33TwoLinesAreWrong(t *testing.T) {
	for _, lines := range someTexts() {
		for a := range lines {
			for b := a + 1; b < len(lines); b++ {
				for _, s := range []string{"", "procs 0", "ret e", "jump 10", "proc 1 0 size 1"} {
					bent := with(with(lines, a, s), b, s)
					if _, wrong := impl.PrgParse(bent); wrong != a+1 {
						t.Fatalf("PrgParse(%q) tells %d, not %d", bent, wrong, a+1)
					}
					checkParse(t, bent)
				}
				// Two lines that change places may both be right.
				checkParse(t, with(with(lines, a, lines[b]), b, lines[a]))
			}
		}
	}
}

func TestPromises32And33OfDrawnLines(t *testing.T) {
	r := rand.New(rand.NewSource(33))
	others := otherLines()
	for _, p := range drawnPrograms(1000) {
		lines := linesOf(p)
		checkParse(t, lines)
		for range 20 {
			bent := slices.Clone(lines)
			for range 1 + r.Intn(3) {
				k := r.Intn(len(bent))
				switch r.Intn(5) {
				case 0:
					bent[k] = others[r.Intn(len(others))]
				case 1:
					bent[k] = bent[r.Intn(len(bent))]
				case 2:
					bent = slices.Delete(bent, k, k+1)
				case 3:
					bent = slices.Insert(bent, k, lines[r.Intn(len(lines))])
				case 4:
					all := bends(bent[k])
					bent[k] = all[r.Intn(len(all))]
				}
				if len(bent) == 0 {
					break
				}
			}
			checkParse(t, bent)
		}
	}
}

// Lists of a few lines, whatever stands in them.
func TestPromise32WhatIsReadHasItsText(t *testing.T) {
	words := []string{"procs 1", "procs 2", "proc 0 3 size 1", "proc 0 3 size 2", "proc 4 3 size 1", "ret a", "jump 1", "set a 5", "call a 1 a", ""}
	last := [][]string{{}}
	read := 0
	for range 5 {
		var longer [][]string
		for _, lines := range last {
			for _, s := range words {
				longer = append(longer, append(slices.Clone(lines), s))
			}
		}
		for _, lines := range longer {
			checkParse(t, lines)
			if _, wrong := impl.PrgParse(lines); wrong == 0 {
				read++
			}
		}
		last = longer
	}
	// One procedure: of one step 1, of two steps 3 by 2; two procedures of one step each: 1.
	if read != 8 {
		t.Errorf("%d lists were read, not 8", read)
	}
}

func TestPrgParseAtEdges(t *testing.T) {
	ten := slices.Concat([]string{"procs 1", "proc 0 0 size 10"}, slices.Repeat([]string{"jump 9"}, 10))
	four := slices.Concat([]string{"procs 4"}, slices.Concat(slices.Repeat([][]string{{"proc 0 0 size 1", "ret a"}}, 4)...))
	for _, c := range []struct {
		lines []string
		want  int
	}{
		{nil, 1},
		{[]string{}, 1},
		{[]string{""}, 1},
		{[]string{"", ""}, 1},
		{[]string{"procs 1"}, 2},
		{[]string{"procs 4"}, 2},
		{[]string{"procs 0"}, 1},
		{[]string{"procs 5"}, 1},
		{[]string{"procs 10"}, 1},
		{[]string{"procs 1", "proc 0 0 size 1"}, 3},
		{[]string{"procs 1", "proc 0 0 size 1", "ret a"}, 0},
		{[]string{"procs 1", "proc 0 0 size 1", "jump 0"}, 0},
		{[]string{"procs 1", "proc 0 0 size 1", "jump 1"}, 3},
		{[]string{"procs 1", "proc 0 0 size 1", "set a 1"}, 3},
		{[]string{"procs 1", "proc 0 0 size 1", "if a < a 0"}, 3},
		{[]string{"procs 1", "proc 0 0 size 1", "ret a", ""}, 4},
		{[]string{"procs 1", "proc 0 0 size 1", "ret a", "ret a"}, 4},
		{[]string{"procs 1", "proc 0 0 size 1", "ret a", "proc 0 0 size 1", "ret a"}, 4},
		{[]string{"procs 2", "proc 0 0 size 1", "ret a"}, 4},
		{[]string{"procs 2", "proc 0 0 size 1", "ret a", "ret a"}, 4},
		{[]string{"procs 1", "proc 0 0 size 0"}, 2},
		{[]string{"procs 1", "proc 0 0 size 11"}, 2},
		{[]string{"procs 1", "proc 1 0 size 1", "ret a"}, 2},
		{[]string{"procs 1", "proc 0 0 size 2", "ret a", "add a a a"}, 4},
		{[]string{"procs 1", "proc 0 0 size 2", "add a a e", "add a a a"}, 3},
		{[]string{"procs 1", "proc 0 0 size 2", "call a 0 a", "ret a"}, 0},
		{[]string{"procs 1", "proc 0 0 size 2", "call a 1 a", "ret a"}, 3},
		{[]string{"procs 1", "proc 0 0 size 2", "if a < a 1", "ret a"}, 0},
		{[]string{"procs 1", "proc 0 0 size 2", "if a < a 2", "ret a"}, 3},
		{[]string{"procs 1\n", "proc 0 0 size 1", "ret a"}, 1},
		{[]string{"procs 1\nproc 0 0 size 1\nret a"}, 1},
		{ten, 0},
		{ten[:11], 12},
		{append(slices.Clone(ten), "jump 9"), 13},
		{with(ten, 1, "proc 0 0 size 9"), 3},
		{four, 0},
		{four[:8], 9},
		{append(slices.Clone(four), "proc 0 0 size 1", "ret a"), 10},
		{with(four, 0, "procs 3"), 8},
		{with(four, 0, "procs 5"), 1},
		{slices.Repeat([]string{"procs 1"}, 100000), 2},
		{append(slices.Clone(four), make([]string, 100000)...), 10},
		{[]string{strings.Repeat("procs 1 ", 100000)}, 1},
		{[]string{"procs 1", "proc 0 0 size 1", "ret a" + strings.Repeat(" ", 1000000)}, 3},
	} {
		p, wrong := impl.PrgParse(c.lines)
		if wrong != c.want || (len(p.Procs) == 0) != (wrong != 0) {
			t.Errorf("PrgParse(%.200q) = %+v, %d, not %d", c.lines, p, wrong, c.want)
		}
	}
}

// What is told is new, and no list of it reaches into another one, nor into what was handed in.
func TestWhatIsParsedAndPrintedIsNew(t *testing.T) {
	lines := linesOf(program(3, 2, 3))
	room := append(make([]string, 0, 50), lines...)
	p, _ := impl.PrgParse(room)
	was := clone(p)
	for k := range p.Procs {
		_ = append(p.Procs[k].Code, ins{Op: 77})
		_ = append(p.Procs[:k+1:k+1], proc{})
	}
	for k := range p.Procs[0].Code {
		p.Procs[0].Code[k] = ins{Op: 99}
	}
	if !reflect.DeepEqual(p.Procs[1:], was.Procs[1:]) {
		t.Errorf("the other procedures became %+v", p.Procs[1:])
	}
	printed := impl.PrgPrint(was)
	for k := range printed {
		printed[k] = "turned"
	}
	if again := impl.PrgPrint(was); !slices.Equal(again, lines) || !slices.Equal(room, lines) {
		t.Errorf("the lines became %q", again)
	}
	for k, s := range room[:cap(room)][len(room):] {
		if s != "" {
			t.Errorf("%q stands %d behind the lines", s, k)
		}
	}
	if again, wrong := impl.PrgParse(lines); wrong != 0 || !reflect.DeepEqual(again, was) {
		t.Errorf("PrgParse = %+v, %d, the second time", again, wrong)
	}
}
