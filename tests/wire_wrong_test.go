package tests

import (
	"bytes"
	"math"
	"math/rand"
	"slices"
	"testing"

	"loop.example/outwork/impl"
)

// farNumbers are too far from 0 to be sent, some of them by so much that three bytes or a word of memory are around.
func farNumbers() []int {
	return []int{
		farthest + 1, -farthest - 1, farthest + 2, -farthest - 2, 2 * farthest, -2 * farthest, 1<<24 - farthest - 1, 1<<24 - farthest, 1 << 24, -1 << 24,
		math.MaxInt16 << 10, math.MaxInt32, math.MinInt32, 1 << 32, 1<<32 + 5, -1 << 32, math.MaxInt - farthest, math.MaxInt - farthest + 1, math.MaxInt - 1, math.MaxInt, math.MinInt, math.MinInt + 1, math.MinInt + farthest,
	}
}

func TestWirPutOfNumbersThatAreTooFar(t *testing.T) {
	for _, n := range farNumbers() {
		for _, b := range [][]byte{nil, {}, {0}, {1, 2, 3}, bytes.Repeat([]byte{255}, 9)} {
			if got := impl.WirPut(b, n); !bytes.Equal(got, b) {
				t.Errorf("WirPut(%v, %d) = %v", b, n, got)
			}
		}
	}
}

func TestWirTakeWhereThereIsNone(t *testing.T) {
	for _, b := range [][]byte{nil, {}, {0}, {1, 2}, {1, 2, 3}, {1, 2, 3, 4}, make([]byte, 20)} {
		for _, at := range []int{math.MinInt, math.MinInt + 1, math.MinInt + 3, -4, -3, -2, -1, len(b) - 2, len(b) - 1, len(b), len(b) + 1, len(b) + 3, 100, math.MaxInt - 3, math.MaxInt - 2, math.MaxInt - 1, math.MaxInt} {
			if n, ok := impl.WirTake(b, at); ok || n != 0 {
				t.Errorf("WirTake(%v, %d) = %d, %v", b, at, n, ok)
			}
		}
	}
	// The room behind an end is not looked at.
	if n, ok := impl.WirTake(make([]byte, 2, 9), 0); ok || n != 0 {
		t.Errorf("of two bytes there is read %d", n)
	}
	for _, b := range [][]byte{{244, 36, 1}, {244, 36, 255}, {244, 37, 0}, {245, 0, 0}, {255, 255, 255}} {
		for _, ahead := range [][]byte{nil, {0}, {0, 0, 0}} {
			if n, ok := impl.WirTake(slices.Concat(ahead, b, []byte{0, 0, 0}), len(ahead)); ok || n != 0 {
				t.Errorf("behind %v the number %v is %d, %v", ahead, b, n, ok)
			}
		}
	}
}

// mustHaveNoBytes asks that a paper has no bytes.
func mustHaveNoBytes(t *testing.T, p prog, part []int, c cert) {
	t.Helper()
	if got := impl.CrtBytes(p, part, c); len(got) != 0 {
		t.Fatalf("of the part %v of %+v CrtBytes(%+v) = %v", part, p, c, got)
	}
}

func mustReadNoPaper(t *testing.T, p prog, part []int, b []byte) {
	t.Helper()
	if got, ok := impl.CrtRead(p, part, b); ok || !sameCert(got, cert{}) {
		t.Fatalf("of the part %v of %+v CrtRead(%v) = %+v, %v", part, p, b, got, ok)
	}
}

func TestBytesOfPapersThatAreNotOk(t *testing.T) {
	for _, p := range []prog{drawnPrograms(1)[0], program(1, 3), program(2, 1, 2)} {
		for _, part := range anyParts(len(p.Procs)) {
			for _, bad := range badCerts(p, part) {
				mustHaveNoBytes(t, p, part, bad)
			}
		}
	}
	p := program(1, 2, 2, 3)
	for _, part := range anyParts(4) {
		for _, other := range anyParts(4) {
			if c := fullCert(p, part); !isCert(p, other, c) {
				mustHaveNoBytes(t, p, other, c)
				mustReadNoPaper(t, p, other, paperBytes(c))
			}
		}
	}
}

func TestBytesOfPartsThatAreNone(t *testing.T) {
	eachDrawn(24, func(r *rand.Rand, p prog, _ []sum, part []int) {
		for _, bad := range badParts(len(p.Procs)) {
			for _, c := range []cert{{}, paperFor(p, bad), drawnCert(r, p, part), startOf(p, []int{0})} {
				mustHaveNoBytes(t, p, bad, c)
				mustReadNoPaper(t, p, bad, paperBytes(c))
			}
			for many := range 50 {
				mustReadNoPaper(t, p, bad, make([]byte, many))
			}
		}
	})
}

func TestBytesOfProgramsThatAreNotOk(t *testing.T) {
	for _, p := range badPrograms(t) {
		for _, part := range [][]int{nil, {}, {0}, {1}, {0, 1}, {0, 1, 2, 3}} {
			for _, c := range []cert{{}, paperFor(p, part)} {
				mustHaveNoBytes(t, p, part, c)
				mustReadNoPaper(t, p, part, paperBytes(c))
			}
			for many := range 50 {
				mustReadNoPaper(t, p, part, make([]byte, many))
			}
		}
	}
}

func TestCrtReadOfTooFewAndTooManyBytes(t *testing.T) {
	eachPaper(60, func(r *rand.Rand, p prog, part []int, c cert) {
		b := paperBytes(c)
		for size := range b {
			mustReadNoPaper(t, p, part, b[:size])
		}
		for _, one := range []byte{0, 1, 2, 255} {
			mustReadNoPaper(t, p, part, append(slices.Clone(b), one))
		}
		mustReadNoPaper(t, p, part, append(slices.Clone(b), b...))
		mustReadNoPaper(t, p, part, append(slices.Clone(b), drawnBytes(r, 1+r.Intn(40))...))
		mustReadNoPaper(t, p, part, framed(b))
	})
}

// The paper has two states and a sum, of each of which the first byte, and each of the bounds, is turned by itself.
func TestCrtReadOfWhatIsNoStateAndNoSum(t *testing.T) {
	p, part := program(2), []int{0}
	some := st(itv(-1, 1), itv(0, 0), itv(5, 9), itv(least, greatest), itv(-7, -7))
	good := cert{States: [][]state{{some, some}}, Outs: []sum{gives(3, 4)}}
	b := paperBytes(good)
	checkRoundTrip(t, p, part, good)
	for _, at := range []int{0, 31, 62} {
		if b[at] != 1 {
			t.Fatalf("at %d of %v there is not 1", at, b)
		}
		for flag := range 256 {
			x := slices.Clone(b)
			x[at] = byte(flag)
			if flag == 1 {
				checkRoundTrip(t, p, part, good)
			} else {
				mustReadNoPaper(t, p, part, x)
			}
			// As if it were 0: without the bytes of bounds.
			end := at + 31
			if at == 62 {
				end = len(b)
			}
			short := slices.Concat(b[:at], []byte{byte(flag)}, b[end:])
			if is := checkPaperIn(t, p, part, short); is != (flag == 0) {
				t.Fatalf("%v is read: %v", short, is)
			}
		}
	}
	for _, at := range []int{1, 7, 13, 19, 25, 32, 38, 44, 50, 56, 63} {
		for _, bad := range badBounds() {
			if bad.Lo < -farthest || bad.Lo > farthest || bad.Hi < -farthest || bad.Hi > farthest {
				continue
			}
			x := slices.Clone(b)
			copy(x[at:], boundsBytes(bad))
			mustReadNoPaper(t, p, part, x)
		}
		for _, ends := range [][2]int{{farthest, farthest}, {-farthest, -farthest}, {-farthest, farthest}, {0, greatest + 1}, {least - 1, 0}} {
			x := slices.Clone(b)
			copy(x[at:], slices.Concat(triple(ends[0]), triple(ends[1])))
			mustReadNoPaper(t, p, part, x)
		}
		for _, three := range [][]byte{{255, 255, 255}, {244, 36, 1}} {
			for _, end := range []int{at, at + 3} {
				x := slices.Clone(b)
				copy(x[end:], three)
				mustReadNoPaper(t, p, part, x)
			}
		}
	}
}

func mustTakeNoFrame(t *testing.T, b []byte) {
	t.Helper()
	if body, many, ok := impl.FrmTake(b); ok || many != 0 || len(body) != 0 {
		t.Fatalf("FrmTake(%v) = %v, %d, %v", b, body, many, ok)
	}
}

func TestBodiesThatAreTooLong(t *testing.T) {
	for _, size := range []int{longest + 1, longest + 2, 4096, 65535, 65536, 65536 + 1, 65536 + longest, 1 << 20} {
		for _, one := range []byte{0, 255} {
			if got := impl.FrmPut(bytes.Repeat([]byte{one}, size)); len(got) != 0 {
				t.Errorf("a body of %d bytes has a frame of %d", size, len(got))
			}
		}
	}
	// A frame whose length is too great, though its sum is right, and all its bytes are there.
	for _, size := range []int{longest + 1, longest + 2, 2047, 2048, 4096, 65535} {
		f := framed(make([]byte, size))
		mustTakeNoFrame(t, f)
		mustTakeNoFrame(t, append(f, framed(nil)...))
	}
	checkFramed(t, make([]byte, longest))
}

func TestBytesThatBeginWithNoFrame(t *testing.T) {
	for size := range 4 {
		for _, one := range []byte{0, 1, 2, 255} {
			mustTakeNoFrame(t, bytes.Repeat([]byte{one}, size))
		}
	}
	r := rand.New(rand.NewSource(171))
	for _, body := range someBodies(r) {
		f := framed(body)
		// Each wrong sum of few, among them those that are the same but for 65521, and those of the body alone and of all but the length's first byte.
		right := sumOver(f[:len(f)-2])
		for _, sum := range []int{0, 1, right - 1, right + 1, right ^ 256, right ^ 128, 65535 - right, right + sumsBelow, sumOver(body), sumOver(f[1 : len(f)-2]), right<<8 | right>>8} {
			if sum >= 0 && sum < 65536 && sum != right {
				mustTakeNoFrame(t, append(f[:len(f)-2:len(f)-2], pair(sum)...))
			}
		}
		// More bytes are told than there are.
		for _, more := range []int{1, 2, 3, 4, 5, 255, 256} {
			told := append(pair(len(body)+more), f[2:]...)
			mustTakeNoFrame(t, told)
			mustTakeNoFrame(t, append(pair(len(body)+more), append(slices.Clone(body), pair(sumOver(append(pair(len(body)+more), body...)))...)...))
		}
		mustTakeNoFrame(t, append([]byte{0}, f...))
		mustTakeNoFrame(t, f[1:])
	}
	// The room behind an end is not looked at.
	f := framed([]byte{1, 2, 3})
	mustTakeNoFrame(t, f[:6])
}

// bytesRoom is bytes with room behind their end, filled.
func bytesRoom(b []byte) []byte {
	return fillRoom(append(make([]byte, 0, len(b)+9), b...), 171)
}

// wireAnswers is all that is told of bytes, and of a paper.
func wireAnswers(p prog, part []int, c cert, b []byte, n int) []any {
	read, _ := impl.CrtRead(p, part, b)
	body, _, _ := impl.FrmTake(b)
	return []any{impl.WirPut(b, n), impl.CrtBytes(p, part, c), read, impl.FrmPut(b), body}
}

func TestBytesShareNoMemory(t *testing.T) {
	eachPaper(40, func(r *rand.Rand, given prog, drawnPart []int, c cert) {
		p, part, paper := progRoom(given), withRoom(drawnPart), certRoom(c)
		good := paperBytes(c)
		for _, drawn := range [][]byte{nil, good, framed(good), bent(r, good), bent(r, framed(good)), append(framed(good), good...), make([]byte, longest+1)} {
			b := bytesRoom(drawn)
			for _, n := range []int{r.Intn(100), farthest + 1} {
				was := wholeOf(p, part, paper, b)
				impl.WirTake(b, r.Intn(len(b)+1))
				impl.FrmSum(b)
				once, again := wireAnswers(p, part, paper, b, n), wireAnswers(p, part, paper, b, n)
				mustBeApart(t, []any{p, part, paper, b}, append(once, again...))
				if now := wholeOf(p, part, paper, b); now != was {
					t.Fatalf("%s became %s", was, now)
				}
			}
		}
	})
}

// What is answered can be turned, its room too, and nothing else turns.
func TestWhatIsMadeOfBytesIsNew(t *testing.T) {
	b := bytesRoom([]byte{1, 2, 3})
	one, two := impl.WirPut(b, 5), impl.WirPut(b, 6)
	fillRoom(one[:0], 9)
	if n, ok := impl.WirTake(two, 3); n != 6 || !ok || !bytes.Equal(b[:cap(b)], bytesRoom([]byte{1, 2, 3})[:cap(b)]) {
		t.Errorf("%v and %v became others", b, two)
	}
	f := impl.FrmPut([]byte{1, 2, 3})
	body, _, _ := impl.FrmTake(f)
	fillRoom(body[:0], 9)
	checkFrameIn(t, f)
	if _, _, ok := impl.FrmTake(f); !ok {
		t.Errorf("%v is no frame any more", f)
	}
	p, part := program(2, 1), []int{0, 1}
	c, ok := impl.CrtRead(p, part, paperBytes(fullCert(p, part)))
	clear(c.States[0][0].Vars)
	clear(c.States[1])
	if !ok || !sameState(c.States[0][1], fullCert(p, part).States[0][1]) {
		t.Errorf("%+v shares memory with itself", c)
	}
}
