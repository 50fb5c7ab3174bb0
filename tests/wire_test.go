package tests

import (
	"bytes"
	"math/rand"
	"slices"
	"testing"

	"loop.example/outwork/impl"
)

// sentNumbers are some of all that can be sent: the ends, what is about 0 and about each power of 2, and those about which a byte is carried.
func sentNumbers() []int {
	out := []int{-farthest, -farthest + 1, farthest - 1, farthest, least - 1, least, greatest, greatest + 1, 1000, 5000, -255, 255}
	for n := 1; n <= farthest; n *= 2 {
		out = append(out, n-1, n, -n, 1-n, n-farthest, n-1-farthest, farthest-n)
	}
	return append(out, 65536*122-farthest, 65536*122-1-farthest, 256*31250-farthest, 256*31250-1-farthest)
}

func TestPromise68ANumberThatIsSentIsRead(t *testing.T) {
	r := rand.New(rand.NewSource(68))
	see := func(b []byte, n int) {
		checkPut(t, b, n)
		more := impl.WirPut(b, n)
		if got, ok := impl.WirTake(more, len(b)); got != n || !ok || len(more) != len(b)+3 || !bytes.Equal(more[:len(b)], b) {
			t.Fatalf("%d behind %v is %v, and is read as %d, %v", n, b, more, got, ok)
		}
	}
	for _, n := range sentNumbers() {
		for many := range 9 {
			see(drawnBytes(r, many), n)
		}
	}
	for n := -farthest; n <= farthest; n += 211 {
		see(nil, n)
		see(drawnBytes(r, r.Intn(40)), n)
	}
}

// Of several, put one behind the other, each is read at its place.
func TestPromise68OneNumberBehindTheOther(t *testing.T) {
	r := rand.New(rand.NewSource(168))
	for range 500 {
		var b []byte
		var all []int
		for range 1 + r.Intn(12) {
			n := r.Intn(2*farthest+1) - farthest
			b, all = impl.WirPut(b, n), append(all, n)
		}
		for k, n := range all {
			if got, ok := impl.WirTake(b, 3*k); got != n || !ok {
				t.Fatalf("of %v the number at %d is %d, %v", all, k, got, ok)
			}
		}
		for at := -2; at < len(b)+3; at++ {
			checkTake(t, b, at)
		}
	}
}

func TestPromise68BeyondTheGreatestNothingIsPut(t *testing.T) {
	r := rand.New(rand.NewSource(268))
	for _, n := range farNumbers() {
		for many := range 9 {
			b := drawnBytes(r, many)
			if got := impl.WirPut(b, n); !bytes.Equal(got, b) {
				t.Fatalf("WirPut(%v, %d) = %v", b, n, got)
			}
		}
	}
}

// eachPaper sees papers of parts of programs drawn: empty, full, drawn, right, and made by the engine.
func eachPaper(many int, see func(r *rand.Rand, p prog, part []int, c cert)) {
	eachDrawn(many, func(r *rand.Rand, p prog, all []sum, part []int) {
		made, _ := impl.EngRun(p, all, part)
		for _, c := range []cert{startOf(p, part), fullCert(p, part), drawnCert(r, p, part), lessCert(r, fullCert(p, part)), made} {
			see(r, p, part, c)
		}
	})
}

func TestPromise69APapersBytesAreReadAsIt(t *testing.T) {
	eachPaper(500, func(_ *rand.Rand, p prog, part []int, c cert) {
		checkRoundTrip(t, p, part, c)
		got, ok := impl.CrtRead(p, part, impl.CrtBytes(p, part, c))
		if !ok || !sameCert(got, c) {
			t.Fatalf("of the part %v of %+v the paper %+v is read as %+v, %v", part, p, c, got, ok)
		}
	})
	eachSeq(200, func(_ *rand.Rand, p prog) {
		for k, c := range impl.SeqCerts(p) {
			checkRoundTrip(t, p, impl.GrfParts(p)[k], c)
		}
	})
}

// bent is bytes of which something is turned: a byte, a bit, a piece, an end, or how many there are.
func bent(r *rand.Rand, b []byte) []byte {
	if len(b) == 0 {
		return drawnBytes(r, r.Intn(4))
	}
	at := r.Intn(len(b))
	switch r.Intn(7) {
	case 0:
		return xored(b, at, byte(1+r.Intn(255)))
	case 1:
		return xored(b, at, 1<<r.Intn(8))
	case 2:
		return slices.Delete(slices.Clone(b), at, at+1)
	case 3:
		return slices.Insert(slices.Clone(b), at, byte(r.Intn(256)))
	case 4:
		return append(slices.Clone(b), byte(r.Intn(2)))
	case 5:
		return slices.Clone(b[:at])
	}
	out := slices.Clone(b)
	copy(out[at:], triple(r.Intn(80000)-40000))
	return out
}

func TestPromise70WhatIsReadIsAPaperAndHasTheseBytes(t *testing.T) {
	read, not := 0, 0
	see := func(p prog, part []int, b []byte) {
		if checkPaperIn(t, p, part, b) {
			read++
		} else {
			not++
		}
	}
	eachPaper(400, func(r *rand.Rand, p prog, part []int, c cert) {
		b := paperBytes(c)
		see(p, part, b)
		for range 10 {
			see(p, part, bent(r, b))
			see(p, part, bent(r, bent(r, b)))
		}
		see(p, part, drawnBytes(r, len(b)))
	})
	if read < 4000 || not < 20000 {
		t.Errorf("%d were read, and %d were not", read, not)
	}
}

// Of a procedure of one step: all of two bytes, by themselves and ahead of bounds, and numbers of all sizes as bounds.
func TestPromise70OfOneStep(t *testing.T) {
	p, part := program(1), []int{0}
	read := 0
	for n := range 1 << 16 {
		if checkPaperIn(t, p, part, pair(n)) {
			read++
		}
		checkPaperIn(t, p, part, []byte{byte(n), byte(n >> 8), 0})
		checkPaperIn(t, p, part, slices.Concat(pair(n), boundsBytes(itv(1, 2))))
	}
	if read != 1 {
		t.Errorf("%d of two bytes were read, not just that on which nothing comes and nothing is given", read)
	}
	for n := -farthest; n <= farthest; n += 97 {
		for _, b := range [][]byte{slices.Concat(triple(n), triple(greatest)), slices.Concat(triple(least), triple(n)), slices.Concat(triple(n), triple(n))} {
			is := checkPaperIn(t, p, part, append([]byte{0, 1}, b...))
			if is != (n >= least && n <= greatest) {
				t.Fatalf("with %d as an end it is read: %v", n, is)
			}
		}
	}
}

// someBodies are of each size up to some, of those about which a length has another byte, and of the greatest ones.
func someBodies(r *rand.Rand) [][]byte {
	var out [][]byte
	for size := range 40 {
		out = append(out, make([]byte, size), bytes.Repeat([]byte{255}, size), drawnBytes(r, size))
	}
	for _, size := range []int{254, 255, 256, 257, 511, 512, 1277, 1999, 2000} {
		out = append(out, make([]byte, size), bytes.Repeat([]byte{255}, size), drawnBytes(r, size))
	}
	return out
}

func TestPromise71WhatIsFramedIsTakenOutAgain(t *testing.T) {
	r := rand.New(rand.NewSource(71))
	for _, body := range someBodies(r) {
		f := impl.FrmPut(body)
		for _, behind := range [][]byte{nil, {0}, {255}, f, f[:len(f)-1], framed(nil), drawnBytes(r, 5), drawnBytes(r, 2100)} {
			got, many, ok := impl.FrmTake(slices.Concat(f, behind))
			if !ok || many != len(body)+4 || !bytes.Equal(got, body) {
				t.Fatalf("of the frame %v of %v with %v behind it there is taken %v, %d, %v", f, body, behind, got, many, ok)
			}
			checkFramed(t, body, behind...)
		}
	}
}

func TestPromise71WhatIsTakenIsAFrame(t *testing.T) {
	r := rand.New(rand.NewSource(171))
	taken, not := 0, 0
	see := func(b []byte) {
		if _, ok := checkFrameIn(t, b); ok {
			taken++
		} else {
			not++
		}
	}
	for _, body := range someBodies(r) {
		f := framed(body)
		see(f)
		for range 20 {
			see(bent(r, f))
			see(bent(r, append(slices.Clone(f), f...)))
			see(bent(r, bent(r, f)))
		}
	}
	for range 50000 {
		see(drawnBytes(r, r.Intn(12)))
		see(append([]byte{0, byte(r.Intn(3))}, drawnBytes(r, r.Intn(8))...))
	}
	// All that a frame without a body can be.
	for n := range 1 << 16 {
		see(append([]byte{0, 0}, pair(n)...))
	}
	if taken < 1000 || not < 10000 {
		t.Errorf("%d were taken, and %d were not", taken, not)
	}
}

// xorsOf are all by which a byte can be turned, and of long ones fewer.
func xorsOf(size int) []byte {
	if size > 300 {
		return []byte{1, 2, 4, 8, 16, 32, 64, 128, 255}
	}
	var out []byte
	for by := 1; by < 256; by++ {
		out = append(out, byte(by))
	}
	return out
}

func TestPromise72OneByteThatIsTurnedIsSeen(t *testing.T) {
	r := rand.New(rand.NewSource(72))
	for _, size := range []int{0, 1, 2, 3, 4, 5, 16, 251, 252, 253, 255, 256, 257, 512, 2000} {
		for _, body := range [][]byte{make([]byte, size), bytes.Repeat([]byte{255}, size), drawnBytes(r, size)} {
			f := impl.FrmPut(body)
			for at := range f {
				for _, by := range xorsOf(size) {
					x := xored(f, at, by)
					if got, many, ok := impl.FrmTake(x); ok && many == len(x) || ok && at >= 2 || !ok && (many != 0 || len(got) != 0) {
						t.Fatalf("of the frame of %v with byte %d xor %d there is taken %v, %d, %v", body, at, by, got, many, ok)
					}
				}
				if got, many, ok := impl.FrmTake(f[:at]); ok || many != 0 || len(got) != 0 {
					t.Fatalf("of the first %d bytes of the frame of %v there is taken %v, %d", at, body, got, many)
				}
			}
		}
	}
}

func TestPromise73ASumHangsOnEachByte(t *testing.T) {
	r := rand.New(rand.NewSource(73))
	for size := range 60 {
		for _, b := range [][]byte{make([]byte, size), bytes.Repeat([]byte{255}, size), drawnBytes(r, size)} {
			checkSumTurns(t, b)
		}
	}
	for _, size := range []int{255, 256, 2004, 70000} {
		b := drawnBytes(r, size)
		for range 200 {
			checkSumTurn(t, b, r.Intn(size), byte(1+r.Intn(255)))
		}
		checkSumTurn(t, b, 0, 1)
		checkSumTurn(t, b, size-1, 128)
	}
}

func checkSumTurns(t *testing.T, b []byte) {
	t.Helper()
	for at := range b {
		for by := 1; by < 256; by++ {
			checkSumTurn(t, b, at, byte(by))
		}
	}
}

func checkSumTurn(t *testing.T, b []byte, at int, by byte) {
	t.Helper()
	x := xored(b, at, by)
	was, now := impl.FrmSum(b), impl.FrmSum(x)
	if was == now || was < 0 || was >= sumsBelow || now < 0 || now >= sumsBelow || was != sumOver(b) || now != sumOver(x) {
		t.Fatalf("the sum of %v is %d, and with byte %d xor %d it is %d", b, was, at, by, now)
	}
}

func TestPromise73SumsOfFewBytes(t *testing.T) {
	for n := range 1 << 16 {
		for _, b := range [][]byte{pair(n), append(pair(n), 7), append([]byte{255}, pair(n)...)} {
			if got := impl.FrmSum(b); got != sumOver(b) || got < 0 || got >= sumsBelow {
				t.Fatalf("FrmSum(%v) = %d, not %d", b, got, sumOver(b))
			}
		}
	}
}
