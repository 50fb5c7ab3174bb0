package tests

import (
	"fmt"
	"math"
	"regexp"
	"strconv"
	"strings"
	"testing"

	"loop.example/outwork/impl"
)

// textOf is what InsText should tell of a step that is ok.
func textOf(i ins) string {
	v := func(n int) string { return []string{"a", "b", "c", "d"}[n] }
	rel := func(n int) string { return []string{"", "<", "<=", "=", "!="}[n] }
	switch i.Op {
	case 1, 2, 3, 4:
		return fmt.Sprintf("%s %s %s %s", []string{"", "add", "sub", "mul", "div"}[i.Op], v(i.D), v(i.A), v(i.B))
	case 5:
		if i.Lo == i.Hi {
			return fmt.Sprintf("set %s %d", v(i.D), i.Lo)
		}
		return fmt.Sprintf("any %s %d %d", v(i.D), i.Lo, i.Hi)
	case 6:
		return fmt.Sprintf("load %s %s", v(i.D), v(i.A))
	case 7:
		return fmt.Sprintf("store %s %s", v(i.A), v(i.B))
	case 8:
		return fmt.Sprintf("if %s %s %s %d", v(i.A), rel(i.Rel), v(i.B), i.To)
	case 9:
		return fmt.Sprintf("jump %d", i.To)
	case 10:
		return fmt.Sprintf("call %s %d %s", v(i.D), i.To, v(i.A))
	case 11:
		return fmt.Sprintf("assert %s %s %s", v(i.A), rel(i.Rel), v(i.B))
	}
	return fmt.Sprintf("ret %s", v(i.A))
}

// The forms of lines, with what may be told of numbers asked behind: here they have no needless noughts, and no sign but one below 0.
const (
	numForm = `(0|-?[1-9][0-9]{0,18})`
	varForm = `([abcd])`
	relForm = `(<|<=|=|!=)`
)

var (
	plainForms = regexp.MustCompile(`\A(?:(?:add|sub|mul|div) [abcd] [abcd] [abcd]|(?:load|store) [abcd] [abcd]|assert [abcd] (?:<|<=|=|!=) [abcd]|ret [abcd])\z`)
	setForm    = regexp.MustCompile(`\Aset ` + varForm + ` ` + numForm + `\z`)
	anyForm    = regexp.MustCompile(`\Aany ` + varForm + ` ` + numForm + ` ` + numForm + `\z`)
	ifForm     = regexp.MustCompile(`\Aif ` + varForm + ` ` + relForm + ` ` + varForm + ` ` + numForm + `\z`)
	jumpForm   = regexp.MustCompile(`\Ajump ` + numForm + `\z`)
	callForm   = regexp.MustCompile(`\Acall ` + varForm + ` ` + numForm + ` ` + varForm + `\z`)
)

// numbersIn are the numbers that a line tells by a form; false, if it is none of it, or one is beyond what an int holds.
func numbersIn(form *regexp.Regexp, s string, at ...int) ([]int, bool) {
	m := form.FindStringSubmatch(s)
	if m == nil {
		return nil, false
	}
	var out []int
	for _, k := range at {
		n, err := strconv.Atoi(m[k])
		if err != nil {
			return nil, false
		}
		out = append(out, n)
	}
	return out, true
}

func isNumber(n int) bool {
	return n >= least && n <= greatest
}

// isStepText says whether a line is a step's text, by its form, without a step.
func isStepText(s string, procs, size int) bool {
	if len(s) > mostLine {
		return false
	}
	if plainForms.MatchString(s) {
		return true
	}
	if n, ok := numbersIn(setForm, s, 2); ok {
		return isNumber(n[0])
	}
	if n, ok := numbersIn(anyForm, s, 2, 3); ok {
		return isNumber(n[0]) && isNumber(n[1]) && n[0] < n[1]
	}
	if n, ok := numbersIn(ifForm, s, 4); ok {
		return n[0] >= 0 && n[0] < size
	}
	if n, ok := numbersIn(jumpForm, s, 1); ok {
		return n[0] >= 0 && n[0] < size
	}
	n, ok := numbersIn(callForm, s, 2)
	return ok && n[0] >= 0 && n[0] < procs
}

// checkRead holds what InsRead tells against the line's form; what was read must have the line as its text.
func checkRead(t *testing.T, s string, procs, size int) {
	t.Helper()
	i, ok := impl.InsRead(s, procs, size)
	if ok != isStepText(s, procs, size) {
		t.Fatalf("InsRead(%.80q, %d, %d) = %+v, %v", s, procs, size, i, ok)
	}
	if !ok && i != (ins{}) {
		t.Fatalf("InsRead(%.80q, %d, %d) = %+v, beside a false", s, procs, size, i)
	}
	if ok && (!isOk(i, procs, size) || textOf(i) != s || impl.InsText(i, procs, size) != s) {
		t.Fatalf("InsRead(%.80q, %d, %d) = %+v, whose text is %q", s, procs, size, i, impl.InsText(i, procs, size))
	}
}

func checkText(t *testing.T, i ins, procs, size int) {
	t.Helper()
	s := impl.InsText(i, procs, size)
	if !isOk(i, procs, size) {
		if s != "" {
			t.Fatalf("InsText(%+v, %d, %d) = %q", i, procs, size, s)
		}
		return
	}
	if s != textOf(i) {
		t.Fatalf("InsText(%+v, %d, %d) = %q", i, procs, size, s)
	}
	if got, ok := impl.InsRead(s, procs, size); got != i || !ok {
		t.Fatalf("InsRead(%q, %d, %d) = %+v, %v", s, procs, size, got, ok)
	}
	checkRead(t, s, procs, size)
}

func TestPromise30AStepsTextIsReadAsIt(t *testing.T) {
	for _, of := range [][2]int{{mostProcs, mostSteps}, {1, 1}, {2, 7}, {3, 10}} {
		for _, i := range okSteps(of[0], of[1]) {
			checkText(t, i, of[0], of[1])
		}
	}
	for n := least; n <= greatest; n++ {
		checkText(t, ins{Op: impl.OpAny, D: 2, Lo: n, Hi: n}, 1, 1)
		checkText(t, ins{Op: impl.OpAny, D: 1, Lo: least, Hi: n}, 1, 1)
		checkText(t, ins{Op: impl.OpAny, D: 3, Lo: n, Hi: greatest}, 1, 1)
	}
}

func TestInsTextOfStepsThatAreNotOk(t *testing.T) {
	vars := []int{math.MinInt, -1, 0, 3, 4, math.MaxInt}
	rels := []int{-1, 0, 1, 4, 5, math.MaxInt}
	tos := []int{math.MinInt, -1, 0, 2, 3, 6, 7, math.MaxInt}
	of := append(badBounds(), itv(0, 0), itv(-1, 1))
	for _, op := range append(allOps(), noOps()...) {
		for _, i := range spread(op, vars, rels, tos, of) {
			checkText(t, i, 3, 7)
			i.Hi++
			checkText(t, i, 3, 7)
		}
	}
}

func TestTextsAmongSoMany(t *testing.T) {
	for _, procs := range counts() {
		for _, size := range counts() {
			tos := []int{-1, 0, 1, procs - 1, procs, size - 1, size, math.MaxInt}
			for _, op := range allOps() {
				for _, i := range spread(op, []int{0, 3}, []int{1, 4}, tos, []bounds{itv(0, 0), itv(-1, 5)}) {
					checkText(t, i, procs, size)
				}
			}
			for _, to := range tos {
				checkRead(t, fmt.Sprint("jump ", to), procs, size)
				checkRead(t, fmt.Sprint("if a < b ", to), procs, size)
				checkRead(t, fmt.Sprint("call a ", to, " b"), procs, size)
			}
		}
	}
}

func TestInsTextAtEdges(t *testing.T) {
	for s, i := range map[string]ins{
		"add a b c":           {Op: impl.OpAdd, A: 1, B: 2},
		"sub d d d":           {Op: impl.OpSub, D: 3, A: 3, B: 3},
		"mul b a d":           {Op: impl.OpMul, D: 1, B: 3},
		"div c a b":           {Op: impl.OpDiv, D: 2, B: 1},
		"any b 1 5":           {Op: impl.OpAny, D: 1, Lo: 1, Hi: 5},
		"any d -32768 32767":  {Op: impl.OpAny, D: 3, Lo: least, Hi: greatest},
		"any d -32768 -32767": {Op: impl.OpAny, D: 3, Lo: least, Hi: least + 1},
		"set a 0":             {Op: impl.OpAny},
		"set c -32768":        {Op: impl.OpAny, D: 2, Lo: least, Hi: least},
		"set c 32767":         {Op: impl.OpAny, D: 2, Lo: greatest, Hi: greatest},
		"load a d":            {Op: impl.OpLoad, A: 3},
		"store d a":           {Op: impl.OpStore, A: 3},
		"if a < b 9":          {Op: impl.OpIf, Rel: impl.RelLess, B: 1, To: 9},
		"if b <= a 0":         {Op: impl.OpIf, Rel: impl.RelMost, A: 1},
		"if c = d 5":          {Op: impl.OpIf, Rel: impl.RelSame, A: 2, B: 3, To: 5},
		"if d != d 1":         {Op: impl.OpIf, Rel: impl.RelOther, A: 3, B: 3, To: 1},
		"jump 0":              {Op: impl.OpJump},
		"jump 9":              {Op: impl.OpJump, To: 9},
		"call b 3 a":          {Op: impl.OpCall, D: 1, To: 3},
		"call a 0 d":          {Op: impl.OpCall, A: 3},
		"assert b = c":        {Op: impl.OpAssert, Rel: impl.RelSame, A: 1, B: 2},
		"ret a":               {Op: impl.OpRet},
		"ret d":               {Op: impl.OpRet, A: 3},
	} {
		if got := impl.InsText(i, mostProcs, mostSteps); got != s {
			t.Errorf("InsText(%+v) = %q, not %q", i, got, s)
		}
		if got, ok := impl.InsRead(s, mostProcs, mostSteps); got != i || !ok {
			t.Errorf("InsRead(%q) = %+v, %v, not %+v", s, got, ok, i)
		}
	}
}

// phrases are all lines of up to five words of which the first is among firsts, and the others are among words.
func phrases(firsts, words []string) []string {
	last := firsts
	out := append([]string{}, firsts...)
	for range 4 {
		var longer []string
		for _, s := range last {
			for _, w := range words {
				longer = append(longer, s+" "+w)
			}
		}
		out, last = append(out, longer...), longer
	}
	return out
}

func TestPromise30WhatIsReadHasTheLineAsItsText(t *testing.T) {
	firsts := []string{"add", "div", "any", "set", "load", "store", "if", "jump", "call", "assert", "ret", "", "a", "jumps"}
	for _, s := range phrases(firsts, []string{"a", "d", "e", "", "<", "!=", "0", "2", "-3", "-0", "02"}) {
		checkRead(t, s, 2, 3)
	}
}

// bends are a text with one byte left out, put in, doubled or turned, and with a neighbour put in its place.
func bends(s string) []string {
	const bytes = "abde 019-+<=!>A\t\n\x00\xff"
	var out []string
	for k := 0; k <= len(s); k++ {
		for b := range len(bytes) {
			out = append(out, s[:k]+bytes[b:b+1]+s[k:])
			if k < len(s) {
				out = append(out, s[:k]+bytes[b:b+1]+s[k+1:])
			}
		}
		if k < len(s) {
			out = append(out, s[:k]+s[k+1:], s[:k], s[k:], s[:k]+s[k:k+1]+s[k:])
		}
		if k+1 < len(s) {
			out = append(out, s[:k]+s[k+1:k+2]+s[k:k+1]+s[k+2:])
		}
	}
	return out
}

func TestTextsThatAreBent(t *testing.T) {
	for _, s := range []string{
		"add a b c", "sub d d d", "mul b a d", "div c a b", "any b 1 5", "any d -32768 32767", "any c -1 0", "any a 9 10",
		"set a 0", "set c -32768", "set c 32767", "set b -10", "load a d", "store d a",
		"if a < b 9", "if b <= a 0", "if c = d 5", "if d != d 1", "jump 0", "jump 9", "call b 3 a", "call a 0 d",
		"assert b = c", "assert a <= d", "assert a != d", "assert a < d", "ret a", "ret d",
	} {
		checkRead(t, s, mostProcs, mostSteps)
		for _, bent := range bends(s) {
			checkRead(t, bent, mostProcs, mostSteps)
			checkRead(t, bent, 1, 1)
			checkRead(t, bent, 1000, 1000)
		}
	}
}

func TestInsReadOfWrongTexts(t *testing.T) {
	for _, s := range []string{
		"", " ", "  ", "\n", "\x00", "a", "0", "procs 1", "proc 0 3 size 3", "safe",
		"add", "add ", "add a", "add a b", "add a b ", "add a b c ", " add a b c", "add  a b c", "add a  b c", "add a b  c",
		"add a b c d", "add a b e", "add e b c", "add a b 2", "add a,b,c", "add a b c\n", "add\ta b c", "ADD a b c", "add A b c", "addabc",
		"add ab c d", "add a b cd", "add abc", "mod a b c", "plus a b c", "add a b c add a b c",
		"any a 5 5", "any a 0 0", "any a -32768 -32768", "any a 5 4", "any a 1", "any a", "any a 1 2 3", "any 1 2", "any 0 1 2",
		"any a 01 5", "any a 1 05", "any a -0 5", "any a -5 -0", "any a +1 5", "any a 1 +5", "any a 1..5", "any a -32769 0", "any a 0 32768",
		"any e 1 5", "any a 65536 65541", "any a x 5", "any a 1 x", "any a  1 5", "any a 1  5", "any a  5", "any a 0x1 5", "any a 1_0 50",
		"set a", "set a ", "set a 5 5", "set a 05", "set a -0", "set a 00", "set a +5", "set a 32768", "set a -32769", "set a x", "set e 5", "set 5", "set a b",
		"set a 9223372036854775807", "set a 9223372036854775808", "set a 18446744073709551621", "set a 1e3", "set a 5.0",
		"load", "load a", "load a b c", "load a e", "load a 0", "load a  b", "load a b ", "loads a b",
		"store", "store a", "store a b c", "store e a", "store 0 a", "store a b ",
		"if a < b", "if a < b ", "if a < b 10", "if a < b -1", "if a < b 01", "if a < b -0", "if a < b +1", "if a < b x", "if a < b 1 2",
		"if a > b 1", "if a >= b 1", "if a == b 1", "if a <> b 1", "if a  b 1", "if a b 1", "if < a b 1", "if a 1 b 1", "if a < e 1", "if e < a 1",
		"if a<b 1", "if a < b c", "if a = b\n1", "if a < b 9223372036854775808", "if",
		"jump", "jump ", "jump 10", "jump -1", "jump 00", "jump 09", "jump -0", "jump +1", "jump a", "jump 1 2", "jump  1", "jump 1 ", "jump 65536",
		"call a 4 b", "call a -1 b", "call a 01 b", "call a -0 b", "call a 1", "call a b", "call a b 1", "call 1 a b", "call a 1 e", "call e 1 a", "call a 1 b c", "call a  b", "call",
		"assert a b", "assert a < b 1", "assert a > b", "assert a == b", "assert < a b", "assert a <", "assert a < e", "assert", "assert a  <  b",
		"ret", "ret ", "ret e", "ret 0", "ret a b", "ret a ", " ret a", "ret  a", "ret ab", "ret A", "return a", "ret \xff", "ret \u0430", "ret\u00a0a",
	} {
		if i, ok := impl.InsRead(s, mostProcs, mostSteps); i != (ins{}) || ok {
			t.Errorf("InsRead(%q) = %+v, %v", s, i, ok)
		}
	}
}

// longLines begin or end like a step's text, and are of that many bytes; no step has so long a text.
func longLines(size int) []string {
	fill := func(ahead, with, behind string) string {
		return ahead + strings.Repeat(with, size)[:size-len(ahead)-len(behind)] + behind
	}
	return []string{
		fill("ret a", " ", ""), fill("", " ", "ret a"), fill("ret", " ", "a"), fill("jump ", "0", ""), fill("jump ", "0", "1"),
		fill("set a ", "0", "5"), fill("set a -", "0", "5"), fill("set a ", "1", ""), fill("any a 1 ", "0", "5"),
		fill("add a b c", " d", ""), fill("if a < b ", "0", "1"), fill("call a ", "0", " b"), fill("", "a", ""), fill("ret a", "\x00", ""),
	}
}

func TestLinesOfManyBytes(t *testing.T) {
	for _, size := range []int{mostLine - 1, mostLine, mostLine + 1, 2 * mostLine, 1000000} {
		for _, s := range longLines(size) {
			if len(s) != size {
				t.Fatalf("a line of %d bytes, not of %d", len(s), size)
			}
			for _, many := range []int{mostSteps, math.MaxInt} {
				if i, ok := impl.InsRead(s, many, many); i != (ins{}) || ok {
					t.Errorf("InsRead(%.80q), of %d bytes, = %+v, %v", s, size, i, ok)
				}
			}
		}
	}
}
