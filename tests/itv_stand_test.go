package tests

import (
	"math"
	"testing"

	"loop.example/outwork/impl"
)

// standsSo is how two numbers stand, said once more.
func standsSo(rel, x, y int) bool {
	switch rel {
	case impl.RelLess:
		return x < y
	case impl.RelMost:
		return x <= y
	case impl.RelSame:
		return x == y
	}
	return x != y
}

// grow is bounds grown over a number; some says whether they have one already.
func grow(a bounds, some bool, n int) bounds {
	if !some {
		return itv(n, n)
	}
	return itv(min(a.Lo, n), max(a.Hi, n))
}

// partsOf is the least bounds of all numbers of both that stand so, or that do not, to one of the other, by going through all pairs.
func partsOf(rel int, a, b bounds, so bool) (bounds, bounds, bool) {
	var first, second bounds
	some := false
	for x := a.Lo; x <= a.Hi; x++ {
		for y := b.Lo; y <= b.Hi; y++ {
			if standsSo(rel, x, y) == so {
				first, second, some = grow(first, some, x), grow(second, some, y), true
			}
		}
	}
	return first, second, some
}

// standBounds are pairs of bounds of which each stands in each way to some others: apart, touching, within, the same, of one number.
func standBounds() [][]bounds {
	return [][]bounds{window(-4, 4), window(least, least+6), window(greatest-6, greatest), boundsOf(least, least+1, 0, greatest-1, greatest)}
}

type asked func(rel int, a, b bounds) (bounds, bounds, bool)

func checkParts(t *testing.T, name string, ask asked, rel int, a, b bounds, so bool) {
	t.Helper()
	x, y, ok := ask(rel, a, b)
	first, second, is := partsOf(rel, a, b, so)
	if x != first || y != second || ok != is {
		t.Fatalf("%s(%d, %v, %v) = %v, %v, %v, not %v, %v, %v", name, rel, a, b, x, y, ok, first, second, is)
	}
}

func TestItvRelAndItvNotTellJustWhatMayStandSo(t *testing.T) {
	for _, all := range standBounds()[:3] {
		for _, a := range all {
			for _, b := range all {
				for rel := impl.RelLess; rel <= impl.RelOther; rel++ {
					checkParts(t, "ItvRel", impl.ItvRel, rel, a, b, true)
					checkParts(t, "ItvNot", impl.ItvNot, rel, a, b, false)
				}
			}
		}
	}
}

type standCase struct {
	rel                 int
	a, b, first, second bounds
	ok                  bool
}

func checkStandCases(t *testing.T, name string, ask asked, cases []standCase) {
	t.Helper()
	for _, c := range cases {
		if x, y, ok := ask(c.rel, c.a, c.b); x != c.first || y != c.second || ok != c.ok {
			t.Errorf("%s(%d, %v, %v) = %v, %v, %v", name, c.rel, c.a, c.b, x, y, ok)
		}
	}
}

func TestItvRelAtEdges(t *testing.T) {
	none := bounds{}
	checkStandCases(t, "ItvRel", impl.ItvRel, []standCase{
		{impl.RelLess, itv(-3, 10), itv(-1, 2), itv(-3, 1), itv(-1, 2), true},
		{impl.RelLess, itv(1, 3), itv(5, 9), itv(1, 3), itv(5, 9), true},
		{impl.RelLess, itv(5, 9), itv(1, 3), none, none, false},
		{impl.RelLess, itv(3, 9), itv(1, 3), none, none, false},
		{impl.RelLess, itv(2, 9), itv(1, 3), itv(2, 2), itv(3, 3), true},
		{impl.RelLess, itv(4, 4), itv(4, 4), none, none, false},
		{impl.RelLess, itv(least, greatest), itv(least, least), none, none, false},
		{impl.RelLess, itv(greatest, greatest), itv(least, greatest), none, none, false},
		{impl.RelLess, itv(least, greatest), itv(least, greatest), itv(least, greatest-1), itv(least+1, greatest), true},
		{impl.RelMost, itv(3, 9), itv(1, 3), itv(3, 3), itv(3, 3), true},
		{impl.RelMost, itv(4, 9), itv(1, 3), none, none, false},
		{impl.RelMost, itv(4, 4), itv(4, 4), itv(4, 4), itv(4, 4), true},
		{impl.RelMost, itv(greatest, greatest), itv(least, greatest), itv(greatest, greatest), itv(greatest, greatest), true},
		{impl.RelMost, itv(least, greatest), itv(least, least), itv(least, least), itv(least, least), true},
		{impl.RelSame, itv(1, 5), itv(5, 9), itv(5, 5), itv(5, 5), true},
		{impl.RelSame, itv(1, 4), itv(5, 9), none, none, false},
		{impl.RelSame, itv(1, 9), itv(3, 5), itv(3, 5), itv(3, 5), true},
		{impl.RelOther, itv(1, 9), itv(1, 1), itv(2, 9), itv(1, 1), true},
		{impl.RelOther, itv(1, 9), itv(9, 9), itv(1, 8), itv(9, 9), true},
		{impl.RelOther, itv(1, 9), itv(5, 5), itv(1, 9), itv(5, 5), true},
		{impl.RelOther, itv(1, 9), itv(1, 2), itv(1, 9), itv(1, 2), true},
		{impl.RelOther, itv(5, 5), itv(5, 6), itv(5, 5), itv(6, 6), true},
		{impl.RelOther, itv(5, 6), itv(5, 5), itv(6, 6), itv(5, 5), true},
		{impl.RelOther, itv(5, 5), itv(4, 5), itv(5, 5), itv(4, 4), true},
		{impl.RelOther, itv(5, 5), itv(5, 5), none, none, false},
		{impl.RelOther, itv(5, 5), itv(6, 6), itv(5, 5), itv(6, 6), true},
		{impl.RelOther, itv(least, greatest), itv(least, least), itv(least+1, greatest), itv(least, least), true},
		{impl.RelOther, itv(greatest, greatest), itv(least, greatest), itv(greatest, greatest), itv(least, greatest-1), true},
		{impl.RelOther, itv(greatest, greatest), itv(greatest, greatest), none, none, false},
		{impl.RelOther, itv(least, least), itv(least, least), none, none, false},
		{impl.RelOther, itv(0, 0), itv(0, 0), none, none, false},
	})
}

func TestItvNotAtEdges(t *testing.T) {
	none := bounds{}
	checkStandCases(t, "ItvNot", impl.ItvNot, []standCase{
		{impl.RelLess, itv(-3, 10), itv(-1, 2), itv(-1, 10), itv(-1, 2), true},
		{impl.RelLess, itv(1, 3), itv(5, 9), none, none, false},
		{impl.RelLess, itv(1, 5), itv(5, 9), itv(5, 5), itv(5, 5), true},
		{impl.RelMost, itv(1, 5), itv(5, 9), none, none, false},
		{impl.RelMost, itv(1, 6), itv(5, 9), itv(6, 6), itv(5, 5), true},
		{impl.RelMost, itv(5, 9), itv(1, 3), itv(5, 9), itv(1, 3), true},
		{impl.RelMost, itv(4, 4), itv(4, 4), none, none, false},
		{impl.RelSame, itv(4, 4), itv(4, 4), none, none, false},
		{impl.RelSame, itv(4, 7), itv(4, 4), itv(5, 7), itv(4, 4), true},
		{impl.RelSame, itv(4, 4), itv(4, 7), itv(4, 4), itv(5, 7), true},
		{impl.RelSame, itv(4, 7), itv(4, 7), itv(4, 7), itv(4, 7), true},
		{impl.RelOther, itv(4, 7), itv(6, 9), itv(6, 7), itv(6, 7), true},
		{impl.RelOther, itv(4, 5), itv(6, 9), none, none, false},
	})
}

func checkNoParts(t *testing.T, rel int, a, b bounds) {
	t.Helper()
	if x, y, ok := impl.ItvRel(rel, a, b); x != (bounds{}) || y != (bounds{}) || ok {
		t.Errorf("ItvRel(%d, %v, %v) = %v, %v, %v", rel, a, b, x, y, ok)
	}
	if x, y, ok := impl.ItvNot(rel, a, b); x != (bounds{}) || y != (bounds{}) || ok {
		t.Errorf("ItvNot(%d, %v, %v) = %v, %v, %v", rel, a, b, x, y, ok)
	}
}

func TestItvRelAndItvNotOfWhatIsNone(t *testing.T) {
	goods := []bounds{itv(0, 0), itv(1, 1), itv(-3, 5), itv(least, greatest)}
	for rel := impl.RelLess; rel <= impl.RelOther; rel++ {
		for _, bad := range badBounds() {
			checkNoParts(t, rel, bad, bad)
			for _, a := range goods {
				checkNoParts(t, rel, bad, a)
				checkNoParts(t, rel, a, bad)
			}
		}
	}
	for _, rel := range []int{math.MinInt, -4, -1, 0, impl.RelOther + 1, 9, 12, 65537, math.MaxInt} {
		for _, a := range goods {
			checkNoParts(t, rel, a, itv(-3, 5))
			checkNoParts(t, rel, itv(-3, 5), a)
			checkNoParts(t, rel, a, itv(1, 0))
		}
	}
}

func checkPartsOfLess(t *testing.T, name string, ask asked, a, b [2]bounds) {
	t.Helper()
	for rel := impl.RelLess; rel <= impl.RelOther; rel++ {
		x, y, is := ask(rel, a[0], b[0])
		u, v, ok := ask(rel, a[1], b[1])
		if is && (!ok || x.Lo < u.Lo || x.Hi > u.Hi || y.Lo < v.Lo || y.Hi > v.Hi) {
			t.Fatalf("%s(%d, ..) = %v, %v of %v and %v, but %v, %v, %v of %v and %v", name, rel, x, y, a[0], b[0], u, v, ok, a[1], b[1])
		}
	}
}

func TestPromise18OfLessComesLessStanding(t *testing.T) {
	for _, all := range [][]bounds{window(-2, 3), boundsOf(least, least+1, -7, 0, 7, greatest-1, greatest)} {
		pairs := nested(all)
		for _, a := range pairs {
			for _, b := range pairs {
				checkPartsOfLess(t, "ItvRel", impl.ItvRel, a, b)
				checkPartsOfLess(t, "ItvNot", impl.ItvNot, a, b)
			}
		}
	}
}

// checkEnds asks of each end of a part for an end of the other part to which it stands so.
func checkEnds(t *testing.T, rel int, first, second bounds) {
	t.Helper()
	for _, x := range []int{first.Lo, first.Hi} {
		if !impl.RelHolds(rel, x, second.Lo) && !impl.RelHolds(rel, x, second.Hi) {
			t.Fatalf("Rel %d: the end %d of %v stands so to no end of %v", rel, x, first, second)
		}
	}
	for _, y := range []int{second.Lo, second.Hi} {
		if !impl.RelHolds(rel, first.Lo, y) && !impl.RelHolds(rel, first.Hi, y) {
			t.Fatalf("Rel %d: no end of %v stands so to the end %d of %v", rel, first, y, second)
		}
	}
}

func checkKept(t *testing.T, rel int, a, b bounds, firsts, seconds []int) {
	t.Helper()
	first, second, ok := impl.ItvRel(rel, a, b)
	if ok {
		if !impl.ItvIn(first, a) || !impl.ItvIn(second, b) {
			t.Fatalf("ItvRel(%d, %v, %v) = %v, %v is beyond both", rel, a, b, first, second)
		}
		checkEnds(t, rel, first, second)
	}
	for _, x := range firsts {
		for _, y := range seconds {
			if impl.RelHolds(rel, x, y) && (!ok || !has(first, x) || !has(second, y)) {
				t.Fatalf("ItvRel(%d, %v, %v) = %v, %v, %v, without %d and %d", rel, a, b, first, second, ok, x, y)
			}
		}
	}
}

func TestPromise20WhatCanStandSoIsKept(t *testing.T) {
	for _, all := range standBounds() {
		for _, a := range all {
			for _, b := range all {
				for rel := impl.RelLess; rel <= impl.RelOther; rel++ {
					checkKept(t, rel, a, b, pickedOf(a), pickedOf(b))
				}
			}
		}
	}
}

func checkOneOrTheOther(t *testing.T, rel int, a, b bounds, firsts, seconds []int) {
	t.Helper()
	x, y, so := impl.ItvRel(rel, a, b)
	u, v, not := impl.ItvNot(rel, a, b)
	if !so && !not {
		t.Fatalf("%v and %v stand neither so (%d) nor otherwise", a, b, rel)
	}
	for _, n := range firsts {
		for _, m := range seconds {
			holds := impl.RelHolds(rel, n, m)
			if holds && (!so || !has(x, n) || !has(y, m)) || !holds && (!not || !has(u, n) || !has(v, m)) {
				t.Fatalf("Rel %d of %d and %d is %v: ItvRel %v, %v, %v, ItvNot %v, %v, %v", rel, n, m, holds, x, y, so, u, v, not)
			}
		}
	}
}

func TestPromise21WhatDoesNotStandSoStandsOtherwise(t *testing.T) {
	for _, all := range standBounds() {
		for _, a := range all {
			for _, b := range all {
				for rel := impl.RelLess; rel <= impl.RelOther; rel++ {
					checkOneOrTheOther(t, rel, a, b, pickedOf(a), pickedOf(b))
				}
			}
		}
	}
}
