package tests

import (
	"fmt"
	"math"
	"strings"
	"testing"

	"loop.example/outwork/impl"
)

// far is written out, so that a constant that was turned is seen.
const far = 1099511627776

type bounds = impl.ItvItv

func itv(lo, hi int) bounds {
	return bounds{Lo: lo, Hi: hi}
}

// boundsOf is all bounds whose ends are among some numbers that rise.
func boundsOf(ends ...int) []bounds {
	var out []bounds
	for i, lo := range ends {
		for _, hi := range ends[i:] {
			out = append(out, itv(lo, hi))
		}
	}
	return out
}

// window is all bounds within lo..hi.
func window(lo, hi int) []bounds {
	var ends []int
	for n := lo; n <= hi; n++ {
		ends = append(ends, n)
	}
	return boundsOf(ends...)
}

// narrowBounds are few numbers each, so that all of them can be gone through: at both ends, about 0, and where products, sums and differences begin to be wrapped.
func narrowBounds() []bounds {
	var out []bounds
	for _, w := range [][2]int{{least, least + 2}, {-257, -255}, {-182, -180}, {-3, 3}, {181, 182}, {256, 257}, {16383, 16385}, {greatest - 2, greatest}} {
		out = append(out, window(w[0], w[1])...)
	}
	return out
}

// wideBounds are of any size, with their ends at and about 0, the steps, and the ends of all numbers.
func wideBounds() []bounds {
	return boundsOf(least, least+1, -1001, -256, -10, -2, -1, 0, 1, 2, 5, 181, 256, 1000, greatest-1, greatest)
}

// badBounds are not ok: Lo above Hi, or an end that is no number.
func badBounds() []bounds {
	out := []bounds{
		itv(1, 0), itv(0, -1), itv(greatest, least), itv(greatest, greatest-1), itv(least+1, least),
		itv(least-1, greatest+1), itv(math.MinInt, math.MaxInt), itv(math.MaxInt, math.MinInt),
	}
	for _, none := range noNumbers() {
		out = append(out, itv(none, none), itv(none, 0), itv(0, none), itv(none, greatest), itv(least, none))
	}
	return out
}

func isBad(a bounds) bool {
	return a.Lo < least || a.Hi > greatest || a.Lo > a.Hi
}

func has(a bounds, n int) bool {
	return a.Lo <= n && n <= a.Hi
}

// foldOf is what ItvFold should tell, by counting turns instead of by what is left of them.
func foldOf(lo, hi int) bounds {
	turns := func(n int) int { return int(math.Floor(float64(n-least) / 65536)) }
	if turns(lo) != turns(hi) {
		return itv(least, greatest)
	}
	return itv(lo-65536*turns(lo), hi-65536*turns(hi))
}

// plain is what comes of two numbers before it is wrapped.
func plain(op, x, y int) (int, bool) {
	switch op {
	case impl.OpAdd:
		return x + y, true
	case impl.OpSub:
		return x - y, true
	case impl.OpMul:
		return x * y, true
	}
	if y == 0 {
		return 0, false
	}
	return x / y, true
}

// spanOf is what ItvDo should tell, by going through numbers of the first bounds, and all of the second.
func spanOf(op int, firsts []int, b bounds) (bounds, bool) {
	lo, hi, some := 0, 0, false
	for y := b.Lo; y <= b.Hi; y++ {
		for _, x := range firsts {
			n, ok := plain(op, x, y)
			if !ok {
				continue
			}
			if !some || n < lo {
				lo = n
			}
			if !some || n > hi {
				hi = n
			}
			some = true
		}
	}
	if !some {
		return bounds{}, false
	}
	return foldOf(lo, hi), true
}

func numbersOf(a bounds) []int {
	var out []int
	for n := a.Lo; n <= a.Hi; n++ {
		out = append(out, n)
	}
	return out
}

// pickedOf is some numbers of bounds of any size: near the ends, near 0, and others between.
func pickedOf(a bounds) []int {
	var out []int
	for _, n := range []int{a.Lo, a.Lo + 1, a.Lo + 7, -256, -3, -2, -1, 0, 1, 2, 3, 181, 256, (a.Lo + a.Hi) / 2, a.Hi - 7, a.Hi - 1, a.Hi} {
		if has(a, n) {
			out = append(out, n)
		}
	}
	return out
}

func TestItvConstants(t *testing.T) {
	if impl.ItvFar != far {
		t.Errorf("ItvFar is %d", impl.ItvFar)
	}
	if impl.ItvAll() != itv(least, greatest) {
		t.Errorf("ItvAll() = %v", impl.ItvAll())
	}
}

func TestItvOk(t *testing.T) {
	for _, a := range append(narrowBounds(), wideBounds()...) {
		if !impl.ItvOk(a) {
			t.Errorf("ItvOk(%v) is false", a)
		}
	}
	for _, a := range badBounds() {
		if impl.ItvOk(a) {
			t.Errorf("ItvOk(%v)", a)
		}
	}
	if !impl.ItvOk(impl.ItvAll()) || !impl.ItvOk(bounds{}) {
		t.Error("all numbers, or 0 alone, are not ok")
	}
}

func TestItvHas(t *testing.T) {
	for _, a := range append(narrowBounds(), wideBounds()...) {
		for _, n := range []int{a.Lo - 1, a.Lo, a.Lo + 1, a.Hi - 1, a.Hi, a.Hi + 1, 0, least, greatest} {
			if impl.ItvHas(a, n) != has(a, n) {
				t.Errorf("ItvHas(%v, %d) = %v", a, n, impl.ItvHas(a, n))
			}
		}
		for _, none := range noNumbers() {
			if impl.ItvHas(a, none) {
				t.Errorf("ItvHas(%v, %d)", a, none)
			}
		}
	}
	for _, bad := range badBounds() {
		for _, n := range []int{bad.Lo, bad.Hi, -1, 0, 1, least, greatest} {
			if impl.ItvHas(bad, n) {
				t.Errorf("ItvHas(%v, %d)", bad, n)
			}
		}
	}
}

func checkReckoned(t *testing.T, op int, a, b bounds, firsts, seconds []int) {
	t.Helper()
	all, ok := impl.ItvDo(op, a, b)
	if ok && isBad(all) || !ok && all != (bounds{}) {
		t.Fatalf("ItvDo(%d, %v, %v) = %v, %v", op, a, b, all, ok)
	}
	for _, x := range firsts {
		for _, y := range seconds {
			n, is := impl.NumDo(op, x, y)
			if is && (!ok || !has(all, n)) {
				t.Fatalf("ItvDo(%d, %v, %v) = %v, %v, without %d of %d and %d", op, a, b, all, ok, n, x, y)
			}
		}
	}
}

func TestPromise1WhatCanBeReckonedIsInTheBounds(t *testing.T) {
	for op := impl.OpAdd; op <= impl.OpDiv; op++ {
		for _, a := range narrowBounds() {
			for _, b := range narrowBounds() {
				checkReckoned(t, op, a, b, numbersOf(a), numbersOf(b))
			}
		}
		for _, a := range wideBounds() {
			for _, b := range wideBounds() {
				checkReckoned(t, op, a, b, pickedOf(a), pickedOf(b))
			}
		}
	}
}

func checkDo(t *testing.T, op int, a, b, want bounds, is bool) {
	t.Helper()
	if got, ok := impl.ItvDo(op, a, b); got != want || ok != is {
		t.Fatalf("ItvDo(%d, %v, %v) = %v, %v, not %v, %v", op, a, b, got, ok, want, is)
	}
}

// All numbers would keep promise 1: what is told is held against what comes, too.
func TestItvDoIsTheFoldOfWhatComes(t *testing.T) {
	for op := impl.OpAdd; op <= impl.OpDiv; op++ {
		for _, a := range narrowBounds() {
			for _, b := range narrowBounds() {
				want, is := spanOf(op, numbersOf(a), b)
				checkDo(t, op, a, b, want, is)
			}
		}
		// By one number what comes rises or falls all along the first bounds: their ends will do.
		wide := boundsOf(least, -1000, -1, 0, 1, 300, greatest)
		for _, a := range wide {
			for _, b := range wide {
				want, is := spanOf(op, []int{a.Lo, a.Hi}, b)
				checkDo(t, op, a, b, want, is)
			}
		}
	}
}

func TestItvDoAtEdges(t *testing.T) {
	all := itv(least, greatest)
	for _, c := range []struct {
		op         int
		a, b, want bounds
	}{
		{impl.OpAdd, itv(1, 4), itv(-2, 10), itv(-1, 14)},
		{impl.OpAdd, itv(greatest, greatest), itv(0, 0), itv(greatest, greatest)},
		{impl.OpAdd, itv(greatest-1, greatest), itv(0, 1), all},
		{impl.OpAdd, itv(greatest-1, greatest), itv(2, 3), itv(least, least+2)},
		{impl.OpAdd, itv(least, least+1), itv(-1, 0), all},
		{impl.OpAdd, itv(least, least+1), itv(-5, -2), itv(greatest-4, greatest)},
		{impl.OpAdd, itv(least, greatest), itv(1, 1), all},
		{impl.OpAdd, itv(least, 0), itv(least, 0), all},
		{impl.OpSub, itv(1, 4), itv(-2, 10), itv(-9, 6)},
		{impl.OpSub, itv(0, 0), itv(least, least), itv(least, least)},
		{impl.OpSub, itv(0, 1), itv(least, least), itv(least, least+1)},
		{impl.OpSub, itv(-1, 0), itv(least, least), all},
		{impl.OpSub, itv(least, least), itv(1, 2), itv(greatest-1, greatest)},
		{impl.OpSub, itv(least, least), itv(0, 1), all},
		{impl.OpMul, itv(-3, 10), itv(-1, 2), itv(-10, 20)},
		{impl.OpMul, itv(-3, -2), itv(-5, -4), itv(8, 15)},
		{impl.OpMul, itv(-3, 2), itv(-5, -4), itv(-10, 15)},
		{impl.OpMul, itv(300, 301), itv(300, 300), itv(24464, 24764)},
		{impl.OpMul, itv(181, 182), itv(181, 181), all},
		{impl.OpMul, itv(182, 182), itv(181, 182), itv(-32594, -32412)},
		{impl.OpMul, itv(256, 256), itv(255, 257), itv(-256, 256)},
		{impl.OpMul, itv(-256, 256), itv(256, 256), all},
		{impl.OpMul, itv(least, least), itv(least, least), itv(0, 0)},
		{impl.OpMul, itv(least, least), itv(-1, -1), itv(least, least)},
		{impl.OpMul, all, itv(0, 0), itv(0, 0)},
		{impl.OpMul, all, itv(1, 1), all},
		{impl.OpDiv, itv(-3, 10), itv(-1, 2), itv(-10, 10)},
		{impl.OpDiv, itv(7, 9), itv(2, 3), itv(2, 4)},
		{impl.OpDiv, itv(-9, -7), itv(2, 3), itv(-4, -2)},
		{impl.OpDiv, itv(7, 9), itv(-3, -2), itv(-4, -2)},
		{impl.OpDiv, itv(7, 9), itv(0, 3), itv(2, 9)},
		{impl.OpDiv, itv(7, 9), itv(-3, 0), itv(-9, -2)},
		{impl.OpDiv, itv(7, 9), itv(-3, 3), itv(-9, 9)},
		{impl.OpDiv, itv(7, 9), itv(-3, 2), itv(-9, 9)},
		{impl.OpDiv, itv(-4, 9), itv(5, 8), itv(0, 1)},
		{impl.OpDiv, itv(0, 0), itv(-3, 3), itv(0, 0)},
		{impl.OpDiv, itv(least, least), itv(-1, -1), itv(least, least)},
		{impl.OpDiv, itv(least, least+1), itv(-1, -1), all},
		{impl.OpDiv, itv(least, least), itv(-2, -1), all},
		{impl.OpDiv, itv(least, least), itv(-1, 0), itv(least, least)},
		{impl.OpDiv, itv(least, least), itv(-1, 1), all},
		{impl.OpDiv, itv(least, least), itv(0, 1), itv(least, least)},
		{impl.OpDiv, itv(least+1, greatest), itv(-1, 1), itv(least+1, greatest)},
		{impl.OpDiv, all, itv(1, 1), all},
		{impl.OpDiv, all, itv(2, greatest), itv(-16384, 16383)},
		{impl.OpDiv, all, itv(least, -2), itv(-16383, 16384)},
	} {
		checkDo(t, c.op, c.a, c.b, c.want, true)
	}
}

func TestItvDoOfWhatIsNone(t *testing.T) {
	goods := []bounds{itv(0, 0), itv(1, 1), itv(-3, 5), itv(least, greatest)}
	for op := impl.OpAdd; op <= impl.OpDiv; op++ {
		for _, bad := range badBounds() {
			checkDo(t, op, bad, bad, bounds{}, false)
			for _, a := range goods {
				checkDo(t, op, bad, a, bounds{}, false)
				checkDo(t, op, a, bad, bounds{}, false)
			}
		}
	}
	for _, op := range []int{math.MinInt, -4, -1, 0, impl.OpDiv + 1, 6, 7, 8, 9, 10, 11, 12, 13, 65537, math.MaxInt} {
		for _, a := range goods {
			checkDo(t, op, a, itv(1, 2), bounds{}, false)
			checkDo(t, op, itv(1, 2), a, bounds{}, false)
		}
	}
}

// nested is each pair of bounds of which the first ones are within the second ones.
func nested(all []bounds) [][2]bounds {
	var out [][2]bounds
	for _, less := range all {
		for _, more := range all {
			if more.Lo <= less.Lo && less.Hi <= more.Hi {
				out = append(out, [2]bounds{less, more})
			}
		}
	}
	return out
}

func checkDoOfLess(t *testing.T, a, b [2]bounds) {
	t.Helper()
	for op := impl.OpAdd; op <= impl.OpDiv; op++ {
		less, is := impl.ItvDo(op, a[0], b[0])
		more, ok := impl.ItvDo(op, a[1], b[1])
		if is && (!ok || less.Lo < more.Lo || less.Hi > more.Hi) {
			t.Fatalf("ItvDo(%d, ..) = %v, %v of %v and %v, but %v, %v of %v and %v", op, less, is, a[0], b[0], more, ok, a[1], b[1])
		}
	}
}

func TestPromise18OfLessComesLessReckoned(t *testing.T) {
	pairs := nested(boundsOf(least, -256, -2, -1, 0, 1, 181, greatest))
	for _, a := range pairs {
		for _, b := range pairs {
			checkDoOfLess(t, a, b)
		}
	}
	near := nested(boundsOf(-3, -2, -1, 0, 1, 2, 3))
	for _, ends := range [][]bounds{window(least, least+3), window(greatest-3, greatest), window(180, 183)} {
		for _, a := range nested(ends) {
			for _, b := range near {
				checkDoOfLess(t, a, b)
				checkDoOfLess(t, b, a)
			}
		}
	}
}

func TestPromise19OfSingleNumbersTheBoundsAreWhatComesOfThem(t *testing.T) {
	numbers := someNumbers()
	for op := impl.OpAdd; op <= impl.OpDiv; op++ {
		for _, x := range numbers {
			for _, y := range numbers {
				n, is := impl.NumDo(op, x, y)
				checkDo(t, op, itv(x, x), itv(y, y), itv(n, n), is)
			}
		}
	}
	for _, a := range append(narrowBounds(), wideBounds()...) {
		checkDo(t, impl.OpDiv, a, itv(0, 0), bounds{}, false)
	}
}

func checkJoin(t *testing.T, a, b bounds, wholes []bounds) {
	t.Helper()
	joined := impl.ItvJoin(a, b)
	if !impl.ItvIn(a, joined) || !impl.ItvIn(b, joined) {
		t.Fatalf("ItvJoin(%v, %v) = %v has not both", a, b, joined)
	}
	if joined != impl.ItvJoin(b, a) {
		t.Fatalf("ItvJoin(%v, %v) = %v, but %v the other way round", a, b, joined, impl.ItvJoin(b, a))
	}
	for _, c := range wholes {
		if impl.ItvIn(a, c) && impl.ItvIn(b, c) && !impl.ItvIn(joined, c) {
			t.Fatalf("ItvJoin(%v, %v) = %v, but %v has both", a, b, joined, c)
		}
		if impl.ItvJoin(joined, c) != impl.ItvJoin(a, impl.ItvJoin(b, c)) {
			t.Fatalf("the join of %v, %v and %v hangs on brackets", a, b, c)
		}
	}
}

func TestPromise22TheJoinIsTheLeastThatHasBoth(t *testing.T) {
	for _, all := range [][]bounds{window(-3, 3), boundsOf(least, least+1, -5, 0, 7, greatest-1, greatest)} {
		for _, a := range all {
			for _, b := range all {
				checkJoin(t, a, b, all)
			}
		}
	}
	if got := impl.ItvJoin(itv(-5, -3), itv(4, 9)); got != itv(-5, 9) {
		t.Errorf("the join of bounds apart is %v", got)
	}
}

func TestPromise23TheMeetIsWhatIsInBoth(t *testing.T) {
	for _, w := range [][2]int{{-3, 3}, {least, least + 6}, {greatest - 6, greatest}} {
		for _, a := range window(w[0], w[1]) {
			for _, b := range window(w[0], w[1]) {
				met, ok := impl.ItvMeet(a, b)
				some := false
				for n := w[0] - 1; n <= w[1]+1; n++ {
					both := has(a, n) && has(b, n)
					some = some || both
					if both != (ok && has(met, n)) {
						t.Fatalf("ItvMeet(%v, %v) = %v, %v at %d", a, b, met, ok, n)
					}
				}
				if ok != some || !ok && met != (bounds{}) {
					t.Fatalf("ItvMeet(%v, %v) = %v, %v", a, b, met, ok)
				}
			}
		}
	}
	if met, ok := impl.ItvMeet(itv(least, 5), itv(5, greatest)); met != itv(5, 5) || !ok {
		t.Errorf("the meet of bounds that touch is %v, %v", met, ok)
	}
}

// steps are written out, so that a step that was turned is seen.
func steps() []int {
	return []int{least, -1000, -100, -10, -1, 0, 1, 10, 100, 1000, greatest}
}

func isStep(n int) bool {
	for _, s := range steps() {
		if n == s {
			return true
		}
	}
	return false
}

// walkToStep goes from a number on, one by one, until a step is met.
func walkToStep(n, by int) int {
	for !isStep(n) {
		n += by
	}
	return n
}

// stepEnds are the steps, their neighbours, and numbers between them.
func stepEnds() []int {
	var ends []int
	for _, s := range steps() {
		for _, n := range []int{s - 1, s, s + 1, s + 4} {
			if n >= least && n <= greatest && (len(ends) == 0 || n > ends[len(ends)-1]) {
				ends = append(ends, n)
			}
		}
	}
	return ends
}

func TestItvWideGoesOnToTheNextStep(t *testing.T) {
	below, above := map[int]int{}, map[int]int{}
	for _, n := range stepEnds() {
		below[n], above[n] = walkToStep(n, -1), walkToStep(n, 1)
	}
	all := boundsOf(stepEnds()...)
	for _, a := range all {
		for _, b := range all {
			want := a
			if b.Lo < a.Lo {
				want.Lo = below[b.Lo]
			}
			if b.Hi > a.Hi {
				want.Hi = above[b.Hi]
			}
			if got := impl.ItvWide(a, b); got != want {
				t.Fatalf("ItvWide(%v, %v) = %v, not %v", a, b, got, want)
			}
		}
	}
}

func TestItvWideAtEdges(t *testing.T) {
	for _, c := range []struct{ a, b, want bounds }{
		{itv(0, 3), itv(-2, 4), itv(-10, 10)},
		{itv(0, 3), itv(0, 3), itv(0, 3)},
		{itv(-7, 7), itv(-6, 6), itv(-7, 7)},
		{itv(-7, 7), itv(-7, 8), itv(-7, 10)},
		{itv(-7, 7), itv(-8, 7), itv(-10, 7)},
		{itv(5, 6), itv(1, 10), itv(1, 10)},
		{itv(5, 6), itv(0, 11), itv(0, 100)},
		{itv(5, 6), itv(2, 2), itv(1, 6)},
		{itv(5, 6), itv(9, 9), itv(5, 10)},
		{itv(0, 0), itv(-1, 1), itv(-1, 1)},
		{itv(0, 0), itv(-10, 10), itv(-10, 10)},
		{itv(0, 0), itv(-11, 11), itv(-100, 100)},
		{itv(0, 0), itv(-100, 100), itv(-100, 100)},
		{itv(0, 0), itv(-101, 101), itv(-1000, 1000)},
		{itv(0, 0), itv(-1000, 1000), itv(-1000, 1000)},
		{itv(0, 0), itv(-1001, 1001), itv(least, greatest)},
		{itv(0, 0), itv(least, greatest), itv(least, greatest)},
		{itv(20, 30), itv(-5, 5), itv(-10, 30)},
		{itv(-30, -20), itv(-5, 5), itv(-30, 10)},
		{itv(5000, 6000), itv(4999, 6001), itv(1000, greatest)},
		{itv(-6000, -5000), itv(-6001, -4999), itv(least, -1000)},
		{itv(least, greatest), itv(0, 0), itv(least, greatest)},
	} {
		if got := impl.ItvWide(c.a, c.b); got != c.want {
			t.Errorf("ItvWide(%v, %v) = %v, not %v", c.a, c.b, got, c.want)
		}
	}
}

func checkGrown(t *testing.T, a, b bounds, all []bounds) {
	t.Helper()
	grown := impl.ItvWide(a, b)
	if !impl.ItvIn(a, grown) || !impl.ItvIn(b, grown) {
		t.Fatalf("ItvWide(%v, %v) = %v has not both", a, b, grown)
	}
	if grown.Lo != a.Lo && !isStep(grown.Lo) || grown.Hi != a.Hi && !isStep(grown.Hi) {
		t.Fatalf("ItvWide(%v, %v) = %v does not rest at steps", a, b, grown)
	}
	for _, c := range all {
		if grown.Lo <= c.Lo && c.Hi <= grown.Hi && impl.ItvWide(grown, c) != grown {
			t.Fatalf("%v grew over %v, to %v", grown, c, impl.ItvWide(grown, c))
		}
	}
}

func TestPromise24WhatGrowsHasBothAndRestsAtSteps(t *testing.T) {
	for _, all := range [][]bounds{
		window(-3, 3), boundsOf(least, least+1, -1001, -999, -20, -9, 0, 9, 20, 999, 1001, greatest-1, greatest),
	} {
		for _, a := range all {
			for _, b := range all {
				checkGrown(t, a, b, all)
			}
		}
	}
}

func checkFold(t *testing.T, lo, hi int) {
	t.Helper()
	got := impl.ItvFold(lo, hi)
	if want := foldOf(lo, hi); got != want {
		t.Fatalf("ItvFold(%d, %d) = %v, not %v", lo, hi, got, want)
	}
	for _, n := range []int{lo, lo + 1, (lo + hi) / 2, hi - 1, hi} {
		if n >= lo && n <= hi && !has(got, wrapped(n)) {
			t.Fatalf("ItvFold(%d, %d) = %v, without %d", lo, hi, got, n)
		}
	}
	if lo >= least && hi <= greatest && got != itv(lo, hi) {
		t.Fatalf("ItvFold(%d, %d) = %v, of numbers", lo, hi, got)
	}
}

func TestPromise25WhatIsFoldedHasEachNumberWrapped(t *testing.T) {
	var ends []int
	for _, turn := range []int{-far + 65536, -3 * 65536, -65536, 0, 65536, 2 * 65536, far - 65536} {
		for _, n := range []int{least - 1, least, least + 1, -1, 0, 1, greatest - 1, greatest, greatest + 1} {
			ends = append(ends, turn+n)
		}
	}
	ends = append(ends, -far, -far+1, far-1, far)
	for _, lo := range ends {
		for _, hi := range ends {
			if lo <= hi {
				checkFold(t, lo, hi)
			}
		}
	}
	for n := -3 * 65536; n <= 3*65536; n++ {
		checkFold(t, n, n)
		checkFold(t, n, n+1)
		checkFold(t, n, n+65535)
		checkFold(t, n, n+65536)
	}
}

func TestItvFoldAtEdges(t *testing.T) {
	all := itv(least, greatest)
	for _, c := range []struct {
		lo, hi int
		want   bounds
	}{
		{least, greatest, all},
		{least - 1, greatest, all},
		{least, greatest + 1, all},
		{32768, 98303, all},
		{32768, 32770, itv(least, least+2)},
		{32760, 32770, all},
		{-32770, -32769, itv(greatest-1, greatest)},
		{-32770, -32768, all},
		{5, 65541, all},
		{5, 65546, all},
		{-65536, 65536, all},
		{-far, -far, itv(0, 0)},
		{-far, -far + 5, itv(0, 5)},
		{far, far, itv(0, 0)},
		{far - 5, far, itv(-5, 0)},
		{-far, far, all},
		{-far - 1, -far - 1, bounds{}},
		{-far - 1, -far + 5, bounds{}},
		{-far - 1, far, bounds{}},
		{far + 1, far + 1, bounds{}},
		{far - 5, far + 1, bounds{}},
		{-far, far + 1, bounds{}},
		{1, 0, bounds{}},
		{7, -7, bounds{}},
		{far, -far, bounds{}},
		{far + 9, far + 7, bounds{}},
		{math.MinInt, math.MinInt + 3, bounds{}},
		{math.MaxInt - 3, math.MaxInt, bounds{}},
		{math.MinInt, math.MaxInt, bounds{}},
		{math.MaxInt, math.MinInt, bounds{}},
		{math.MinInt, 5, bounds{}},
		{5, math.MaxInt, bounds{}},
	} {
		if got := impl.ItvFold(c.lo, c.hi); got != c.want {
			t.Errorf("ItvFold(%d, %d) = %v, not %v", c.lo, c.hi, got, c.want)
		}
	}
}

func checkIn(t *testing.T, a, b bounds, all []bounds) {
	t.Helper()
	in := impl.ItvIn(a, b)
	if in != (impl.ItvHas(b, a.Lo) && impl.ItvHas(b, a.Hi)) || in != (b.Lo <= a.Lo && a.Hi <= b.Hi) {
		t.Fatalf("ItvIn(%v, %v) = %v", a, b, in)
	}
	if in && impl.ItvIn(b, a) != (a == b) {
		t.Fatalf("%v and %v: within both ways %v", a, b, impl.ItvIn(b, a))
	}
	for _, c := range all {
		if in && (!impl.ItvIn(a, impl.ItvJoin(b, c)) || !impl.ItvIn(a, impl.ItvJoin(c, b))) {
			t.Fatalf("%v is within %v, but not within its join with %v", a, b, c)
		}
	}
}

func TestPromise26BoundsAreWithinBoundsJustIfBothEndsAre(t *testing.T) {
	for _, all := range [][]bounds{window(-3, 3), boundsOf(least, least+1, -5, 0, 7, greatest-1, greatest)} {
		for _, a := range all {
			if !impl.ItvIn(a, impl.ItvAll()) || !impl.ItvIn(a, a) {
				t.Fatalf("%v is not within all numbers, or not within itself", a)
			}
			for _, b := range all {
				checkIn(t, a, b, all)
			}
		}
	}
}

// Beside what is not ok nothing is told of the other bounds, either.
func TestBoundsThatAreNotOk(t *testing.T) {
	check := func(a, b bounds) {
		t.Helper()
		if impl.ItvIn(a, b) {
			t.Errorf("ItvIn(%v, %v)", a, b)
		}
		if got := impl.ItvJoin(a, b); got != (bounds{}) {
			t.Errorf("ItvJoin(%v, %v) = %v", a, b, got)
		}
		if got, ok := impl.ItvMeet(a, b); got != (bounds{}) || ok {
			t.Errorf("ItvMeet(%v, %v) = %v, %v", a, b, got, ok)
		}
		if got := impl.ItvWide(a, b); got != (bounds{}) {
			t.Errorf("ItvWide(%v, %v) = %v", a, b, got)
		}
	}
	for _, bad := range badBounds() {
		check(bad, bad)
		for _, good := range []bounds{itv(0, 0), itv(3, 5), itv(-7, 9), itv(least, greatest)} {
			check(bad, good)
			check(good, bad)
		}
	}
}

func TestPromise27BoundsTextIsReadAsThem(t *testing.T) {
	all := append(narrowBounds(), wideBounds()...)
	for n := least; n <= greatest; n++ {
		all = append(all, itv(n, n), itv(least, n), itv(n, greatest))
	}
	for _, a := range all {
		s := impl.ItvText(a)
		if s != fmt.Sprintf("%d..%d", a.Lo, a.Hi) {
			t.Fatalf("ItvText(%v) = %q", a, s)
		}
		if got, ok := impl.ItvRead(s); got != a || !ok {
			t.Fatalf("ItvRead(%q) = %v, %v", s, got, ok)
		}
	}
	for _, bad := range badBounds() {
		if s := impl.ItvText(bad); s != "" {
			t.Errorf("ItvText(%v) = %q", bad, s)
		}
		s := fmt.Sprintf("%d..%d", bad.Lo, bad.Hi)
		if got, ok := impl.ItvRead(s); got != (bounds{}) || ok {
			t.Errorf("ItvRead(%q) = %v, %v", s, got, ok)
		}
	}
}

func TestPromise27WhatIsReadHasThatText(t *testing.T) {
	texts := map[string]bounds{}
	for _, a := range boundsOf(numbersOf(itv(-32, 32))...) {
		texts[fmt.Sprintf("%d..%d", a.Lo, a.Hi)] = a
	}
	for _, s := range append(allTexts("-.012", 7), allTexts("+ -.03x", 5)...) {
		want, is := texts[s]
		got, ok := impl.ItvRead(s)
		if ok && (isBad(got) || impl.ItvText(got) != s) {
			t.Fatalf("ItvRead(%q) = %v, with the text %q", s, got, impl.ItvText(got))
		}
		if is && (got != want || !ok) || !ok && got != (bounds{}) {
			t.Fatalf("ItvRead(%q) = %v, %v", s, got, ok)
		}
	}
}

func TestItvReadOfWrongTexts(t *testing.T) {
	long := strings.Repeat("1", 1000000)
	for _, s := range []string{
		"", "5", "-5", ".", "..", "...", "....", "5..", "..5", "5.5", "1.2", "1 2", "1,2", "1-2", "12",
		"1...2", "1....2", "1. .2", "1..2..3", "1..2..", "..1..2", "1.2..3", "1..2.3", "1..2.",
		"01..2", "1..02", "00..1", "-01..2", "-0..1", "-1..-0", "0..-0", "-0..-0", "+1..2", "1..+2",
		" 1..2", "1..2 ", "1 ..2", "1.. 2", "1 .. 2", "\t1..2", "1..2\n", "1..2\x00", "\x001..2",
		"2..1", "1..0", "0..-1", "-1..-2", "32767..-32768", "10..9",
		"-32769..0", "0..32768", "-32769..32768", "65536..65537", "65541..65541", "-65536..65536",
		"9223372036854775807..9223372036854775807", "-9223372036854775808..9223372036854775807",
		"18446744073709551616..18446744073709551617", "--1..2", "1..--2", "a..b", "1..b", "a..2", "0x1..0x2", "1e0..2", "1_0..20",
		"[1..2]", "1..2;", "1\u20252", "1\u20262", "\u0661..\u0662", "\uff11..\uff12", "\xff1..2", "1\xff..2", "1..2\xff",
		long, long + "..2", "1.." + long, long + ".." + long, "-" + long + "..1", strings.Repeat(".", 1000000), strings.Repeat("1..2", 250000),
		strings.Repeat("0", 1000000) + "..1", "1.." + strings.Repeat(" ", 1000000) + "2", strings.Repeat("-", 1000000) + "1..2",
	} {
		if got, ok := impl.ItvRead(s); got != (bounds{}) || ok {
			t.Errorf("ItvRead(%.40q) = %v, %v", s, got, ok)
		}
	}
}
