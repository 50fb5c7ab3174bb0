package tests

import (
	"fmt"
	"math"
	"strings"
	"testing"

	"loop.example/outwork/impl"
)

// The ends are written out, so that a constant that was turned is seen.
const (
	least    = -32768
	greatest = 32767
)

// noNumbers are ints beyond the ends: one beyond each, whole turns away, and the ends of what an int holds.
func noNumbers() []int {
	return []int{
		least - 1, greatest + 1, least - 65536, greatest + 65536, -65536, 65536, -65541, 65541,
		math.MinInt32, math.MaxInt32, math.MinInt, math.MinInt + 1, math.MaxInt - 1, math.MaxInt,
	}
}

// someNumbers are both ends and their neighbours, what is near 0, powers of two and others between.
func someNumbers() []int {
	out := []int{least, least + 1, greatest - 1, greatest}
	for n := -12; n <= 12; n++ {
		out = append(out, n)
	}
	for n := 16; n <= 16384; n *= 2 {
		out = append(out, n-1, n, n+1, -n-1, -n, -n+1)
	}
	for n := least; n <= greatest; n += 1237 {
		out = append(out, n)
	}
	return out
}

// wrapped is what NumWrap should tell, by division instead of by bits.
func wrapped(n int) int {
	left := n % 65536
	if left < least {
		return left + 65536
	}
	if left > greatest {
		return left - 65536
	}
	return left
}

func mustDo(t *testing.T, op, a, b int) int {
	t.Helper()
	n, ok := impl.NumDo(op, a, b)
	if !ok {
		t.Fatalf("NumDo(%d, %d, %d) is false", op, a, b)
	}
	if n < least || n > greatest {
		t.Fatalf("NumDo(%d, %d, %d) = %d is no number", op, a, b, n)
	}
	return n
}

func TestNumConstants(t *testing.T) {
	got := []int{
		impl.NumMin, impl.NumMax, impl.OpAdd, impl.OpSub, impl.OpMul, impl.OpDiv,
		impl.RelLess, impl.RelMost, impl.RelSame, impl.RelOther,
	}
	want := []int{-32768, 32767, 1, 2, 3, 4, 1, 2, 3, 4}
	for i := range want {
		if got[i] != want[i] {
			t.Errorf("constant %d is %d, not %d", i, got[i], want[i])
		}
	}
}

func TestNumOk(t *testing.T) {
	for n := -200000; n <= 200000; n++ {
		if impl.NumOk(n) != (n >= least && n <= greatest) {
			t.Fatalf("NumOk(%d) = %v", n, impl.NumOk(n))
		}
	}
	for _, n := range noNumbers() {
		if impl.NumOk(n) {
			t.Errorf("NumOk(%d)", n)
		}
	}
}

func checkWrap(t *testing.T, n int) {
	t.Helper()
	w := impl.NumWrap(n)
	if w < least || w > greatest || !impl.NumOk(w) {
		t.Fatalf("NumWrap(%d) = %d is no number", n, w)
	}
	// Without signs the difference cannot overflow, and 65536 goes evenly into the turn.
	if (uint64(n)-uint64(w))%65536 != 0 {
		t.Fatalf("NumWrap(%d) = %d is not the same mod 65536", n, w)
	}
	if impl.NumOk(n) && w != n {
		t.Fatalf("NumWrap(%d) = %d, of a number", n, w)
	}
}

func TestPromise14WhatIsWrappedIsANumber(t *testing.T) {
	for n := -4 * 65536; n <= 4*65536; n++ {
		checkWrap(t, n)
	}
	for n := 1; n > 0 && n <= math.MaxInt/3; n *= 3 {
		checkWrap(t, n)
		checkWrap(t, -n)
	}
	for away := range 70000 {
		checkWrap(t, math.MinInt+away)
		checkWrap(t, math.MaxInt-away)
	}
}

func TestNumWrapAtEdges(t *testing.T) {
	for n, want := range map[int]int{
		0: 0, -1: -1, least: least, greatest: greatest,
		32768: least, -32769: greatest, 65535: -1, 65536: 0, -65536: 0, 65541: 5, -65541: -5,
		98303: greatest, 98304: least, math.MaxInt: -1, math.MinInt: 0, math.MinInt + 1: 1,
	} {
		if got := impl.NumWrap(n); got != want {
			t.Errorf("NumWrap(%d) = %d, not %d", n, got, want)
		}
	}
}

func checkUndo(t *testing.T, a, b int) {
	t.Helper()
	if got := mustDo(t, impl.OpSub, mustDo(t, impl.OpAdd, a, b), b); got != a {
		t.Fatalf("%d with %d added and taken away is %d", a, b, got)
	}
	if got := mustDo(t, impl.OpAdd, mustDo(t, impl.OpSub, a, b), b); got != a {
		t.Fatalf("%d with %d taken away and added is %d", a, b, got)
	}
}

// away is how far a number lies from 0.
func away(n int) int {
	if n < 0 {
		return -n
	}
	return n
}

func checkQuotient(t *testing.T, a, b int) {
	t.Helper()
	if b == 0 {
		if n, ok := impl.NumDo(impl.OpDiv, a, b); n != 0 || ok {
			t.Fatalf("%d by 0 is %d, %v", a, n, ok)
		}
		return
	}
	quotient := mustDo(t, impl.OpDiv, a, b)
	left := mustDo(t, impl.OpSub, a, mustDo(t, impl.OpMul, quotient, b))
	if away(left) >= away(b) {
		t.Fatalf("%d by %d is %d, and leaves %d", a, b, quotient, left)
	}
	if left != 0 && (left < 0) != (a < 0) {
		t.Fatalf("%d by %d is %d, and leaves %d on the other side", a, b, quotient, left)
	}
}

func TestPromise15SumsUndoAndQuotientsLeaveLess(t *testing.T) {
	numbers := someNumbers()
	for _, a := range numbers {
		for _, b := range numbers {
			checkUndo(t, a, b)
			checkQuotient(t, a, b)
		}
	}
	for n := least; n <= greatest; n++ {
		for _, end := range []int{least, -1, 0, 1, greatest} {
			checkUndo(t, n, end)
			checkUndo(t, end, n)
			checkQuotient(t, n, end)
			checkQuotient(t, end, n)
		}
	}
}

// Wrapped products hide a quotient that is off by what the divisor turns into whole turns, so the answers are held against plain reckoning too.
func TestNumDoIsPlainReckoningWrapped(t *testing.T) {
	numbers := someNumbers()
	for _, a := range numbers {
		for _, b := range numbers {
			want := map[int]int{impl.OpAdd: a + b, impl.OpSub: a - b, impl.OpMul: a * b}
			if b != 0 {
				want[impl.OpDiv] = a / b
			}
			for op, plain := range want {
				if got := mustDo(t, op, a, b); got != wrapped(plain) {
					t.Fatalf("NumDo(%d, %d, %d) = %d, not %d", op, a, b, got, wrapped(plain))
				}
			}
		}
	}
}

func TestNumDoAtEdges(t *testing.T) {
	for _, c := range []struct{ op, a, b, want int }{
		{impl.OpAdd, 2, 3, 5},
		{impl.OpAdd, greatest, 1, least},
		{impl.OpAdd, least, -1, greatest},
		{impl.OpAdd, least, least, 0},
		{impl.OpAdd, greatest, greatest, -2},
		{impl.OpSub, 2, 3, -1},
		{impl.OpSub, least, 1, greatest},
		{impl.OpSub, greatest, -1, least},
		{impl.OpSub, 0, least, least},
		{impl.OpMul, -7, 6, -42},
		{impl.OpMul, 300, 300, 24464},
		{impl.OpMul, least, -1, least},
		{impl.OpMul, least, least, 0},
		{impl.OpMul, greatest, greatest, 1},
		{impl.OpDiv, 7, 2, 3},
		{impl.OpDiv, -7, 2, -3},
		{impl.OpDiv, 7, -2, -3},
		{impl.OpDiv, -7, -2, 3},
		{impl.OpDiv, 0, 5, 0},
		{impl.OpDiv, least, -1, least},
		{impl.OpDiv, least, 1, least},
		{impl.OpDiv, greatest, -1, -greatest},
		{impl.OpDiv, greatest, least, 0},
		{impl.OpDiv, least, greatest, -1},
		{impl.OpDiv, least, least, 1},
	} {
		if got := mustDo(t, c.op, c.a, c.b); got != c.want {
			t.Errorf("NumDo(%d, %d, %d) = %d, not %d", c.op, c.a, c.b, got, c.want)
		}
	}
}

func checkNoDo(t *testing.T, op, a, b int) {
	t.Helper()
	if n, ok := impl.NumDo(op, a, b); n != 0 || ok {
		t.Errorf("NumDo(%d, %d, %d) = %d, %v", op, a, b, n, ok)
	}
}

func TestNumDoOfWhatIsNone(t *testing.T) {
	for op := impl.OpAdd; op <= impl.OpDiv; op++ {
		for _, none := range noNumbers() {
			for _, n := range []int{least, -1, 0, 1, 5, greatest, none} {
				checkNoDo(t, op, none, n)
				checkNoDo(t, op, n, none)
			}
		}
	}
	for _, op := range []int{math.MinInt, -4, -1, 0, impl.OpDiv + 1, 6, 7, 8, 9, 10, 11, 12, 13, 65537, math.MaxInt} {
		for _, n := range someNumbers() {
			checkNoDo(t, op, n, 3)
			checkNoDo(t, op, 3, n)
		}
	}
}

func countTrue(all ...bool) int {
	n := 0
	for _, b := range all {
		if b {
			n++
		}
	}
	return n
}

func checkStand(t *testing.T, a, b int) {
	t.Helper()
	less, more := impl.RelHolds(impl.RelLess, a, b), impl.RelHolds(impl.RelLess, b, a)
	same := impl.RelHolds(impl.RelSame, a, b)
	if countTrue(less, same, more) != 1 {
		t.Fatalf("%d and %d: less %v, same %v, the other less %v", a, b, less, same, more)
	}
	if less != (a < b) || same != (a == b) {
		t.Fatalf("%d and %d: less %v, same %v", a, b, less, same)
	}
	if impl.RelHolds(impl.RelMost, a, b) == more {
		t.Fatalf("%d is at most %d just if that is less", a, b)
	}
	if impl.RelHolds(impl.RelOther, a, b) == same {
		t.Fatalf("%d and %d are other just if they are the same", a, b)
	}
}

func TestPromise16TwoNumbersStandInOneWay(t *testing.T) {
	// Beyond the ends too: numbers that are the same when they are wrapped are not the same here.
	numbers := append(someNumbers(), noNumbers()...)
	for _, a := range numbers {
		for _, b := range numbers {
			checkStand(t, a, b)
		}
	}
	for n := least; n < greatest; n++ {
		checkStand(t, n, n)
		checkStand(t, n, n+1)
		checkStand(t, n+1, n)
	}
}

func TestRelHoldsOfNoRel(t *testing.T) {
	numbers := append(noNumbers(), least, -1, 0, 1, 3, greatest)
	for _, rel := range []int{math.MinInt, -4, -1, 0, impl.RelOther + 1, 9, 12, 65537, math.MaxInt} {
		for _, a := range numbers {
			for _, b := range numbers {
				if impl.RelHolds(rel, a, b) {
					t.Errorf("RelHolds(%d, %d, %d)", rel, a, b)
				}
			}
		}
	}
}

func TestPromise17ANumbersTextIsReadAsIt(t *testing.T) {
	for n := least; n <= greatest; n++ {
		s := impl.NumText(n)
		if s != fmt.Sprint(n) {
			t.Fatalf("NumText(%d) = %q", n, s)
		}
		if got, ok := impl.NumRead(s); got != n || !ok {
			t.Fatalf("NumRead(%q) = %d, %v", s, got, ok)
		}
	}
	for _, n := range noNumbers() {
		if s := impl.NumText(n); s != "" {
			t.Errorf("NumText(%d) = %q", n, s)
		}
	}
}

// allTexts is each text of at most so many bytes of an alphabet.
func allTexts(alphabet string, size int) []string {
	out, last := []string{""}, []string{""}
	for range size {
		var longer []string
		for _, s := range last {
			for i := range len(alphabet) {
				longer = append(longer, s+alphabet[i:i+1])
			}
		}
		out, last = append(out, longer...), longer
	}
	return out
}

func TestPromise17WhatIsReadHasThatText(t *testing.T) {
	numbers := map[string]int{}
	for n := least; n <= greatest; n++ {
		numbers[fmt.Sprint(n)] = n
	}
	texts := allTexts("+-0139 _.x", 4)
	texts = append(texts, allTexts("-02367", 6)...)
	for n := -120000; n <= 120000; n++ {
		texts = append(texts, fmt.Sprint(n), fmt.Sprintf("%+d", n), fmt.Sprintf("%06d", n))
	}
	for _, s := range texts {
		want, is := numbers[s]
		got, ok := impl.NumRead(s)
		if got != want || ok != is {
			t.Fatalf("NumRead(%q) = %d, %v, not %d, %v", s, got, ok, want, is)
		}
		if ok && impl.NumText(got) != s {
			t.Fatalf("NumRead(%q) = %d, with the text %q", s, got, impl.NumText(got))
		}
	}
}

func TestNumReadOfWrongTexts(t *testing.T) {
	long := strings.Repeat("1", 1000000)
	for _, s := range []string{
		"", "-", "+", "--1", "-+1", "-0", "+0", "+1", "00", "01", "-01", "007", "-00012",
		" ", " 1", "1 ", "1 2", "\t1", "1\n", "\x001", "1\x00", "- 1",
		"32768", "-32769", "65536", "65541", "-65541", "99999", "100000", "000000000000000000001",
		"9223372036854775807", "9223372036854775808", "-9223372036854775808", "-9223372036854775809",
		"18446744073709551616", "18446744073709551621",
		"1e3", "1.0", "1_000", "0x1", "0b1", "0o7", "1,000", "a", "-a", "nil",
		"\xff", "1\xff", "\u0661", "\uff11", "\u22121",
		long, "-" + long, "0" + long, strings.Repeat("0", 1000000), strings.Repeat(" ", 1000000) + "1",
	} {
		if n, ok := impl.NumRead(s); n != 0 || ok {
			t.Errorf("NumRead(%.40q) = %d, %v", s, n, ok)
		}
	}
}
