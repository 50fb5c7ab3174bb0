package tests

import (
	"bytes"
	"math/rand"
	"slices"
	"testing"

	"loop.example/outwork/impl"
)

const (
	farthest = 8000000
	longest  = 2000
	// No sum of bytes is as great.
	sumsBelow = 65521
)

// pair is a number's two lowest bytes, the higher first.
func pair(n int) []byte {
	return []byte{byte(n / 256), byte(n % 256)}
}

// triple is the three bytes in which a number is sent.
func triple(n int) []byte {
	n += farthest
	return []byte{byte(n / 65536), byte(n / 256 % 256), byte(n % 256)}
}

// tripleAt is what WirTake should tell.
func tripleAt(b []byte, at int) (int, bool) {
	if at < 0 || at > len(b) || len(b)-at < 3 {
		return 0, false
	}
	n := int(b[at])*65536 + int(b[at+1])*256 + int(b[at+2])
	if n > 2*farthest {
		return 0, false
	}
	return n - farthest, true
}

func boundsBytes(all ...bounds) []byte {
	var out []byte
	for _, a := range all {
		out = slices.Concat(out, triple(a.Lo), triple(a.Hi))
	}
	return out
}

func stateBytes(s state) []byte {
	if !s.On {
		return []byte{0}
	}
	return append([]byte{1}, boundsBytes(five(s)...)...)
}

func sumBytes(s sum) []byte {
	if !s.On {
		return []byte{0}
	}
	return append([]byte{1}, boundsBytes(s.Out)...)
}

// paperBytes is what CrtBytes should tell of a paper that is ok.
func paperBytes(c cert) []byte {
	var out []byte
	for k, states := range c.States {
		for _, s := range states {
			out = append(out, stateBytes(s)...)
		}
		out = append(out, sumBytes(c.Outs[k])...)
	}
	return out
}

// leftover is what is left of bytes from which things are cut one by one; none is said where one of them was not there.
type leftover struct {
	left []byte
	none bool
}

func (w *leftover) bounds() bounds {
	lo, isLo := tripleAt(w.left, 0)
	hi, isHi := tripleAt(w.left, 3)
	a := itv(lo, hi)
	if !isLo || !isHi || isBad(a) {
		w.none = true
		return bounds{}
	}
	w.left = w.left[6:]
	return a
}

func (w *leftover) flag() bool {
	if len(w.left) == 0 || w.left[0] > 1 {
		w.none = true
		return false
	}
	on := w.left[0] == 1
	w.left = w.left[1:]
	return on
}

func (w *leftover) sum() sum {
	if !w.flag() {
		return sum{}
	}
	return sum{On: true, Out: w.bounds()}
}

func (w *leftover) state() state {
	if !w.flag() {
		return state{}
	}
	return st(w.bounds(), w.bounds(), w.bounds(), w.bounds(), w.bounds())
}

func (w *leftover) paper(p prog, part []int) cert {
	c := startOf(p, part)
	for k, states := range c.States {
		for pc := range states {
			states[pc] = w.state()
		}
		c.Outs[k] = w.sum()
	}
	return c
}

// ends says whether all was there, and nothing is left.
func (w *leftover) ends() bool {
	return !w.none && len(w.left) == 0
}

// paperIn is what CrtRead should tell of a part of a program that is ok.
func paperIn(p prog, part []int, b []byte) (cert, bool) {
	w := &leftover{left: b}
	c := w.paper(p, part)
	if !w.ends() {
		return cert{}, false
	}
	return c, true
}

// sumOver is what FrmSum should tell, each byte by itself times what comes of those behind it.
func sumOver(b []byte) int {
	all, times := 0, 1
	for k := len(b) - 1; k >= 0; k-- {
		all += int(b[k]) * times
		times = times * 257 % sumsBelow
	}
	return (all + times) % sumsBelow
}

// framed is a body in its frame, however long it is.
func framed(body []byte) []byte {
	f := append(pair(len(body)), body...)
	return append(f, pair(sumOver(f))...)
}

// frameIn is what FrmTake should tell.
func frameIn(b []byte) ([]byte, int, bool) {
	if len(b) < 4 {
		return nil, 0, false
	}
	size := int(b[0])*256 + int(b[1])
	if size > longest || size+4 > len(b) || !bytes.HasPrefix(b, framed(b[2:2+size])) {
		return nil, 0, false
	}
	return b[2 : 2+size], size + 4, true
}

func drawnBytes(r *rand.Rand, many int) []byte {
	out := make([]byte, many)
	r.Read(out)
	return out
}

// xored is bytes of which one is turned.
func xored(b []byte, at int, by byte) []byte {
	out := slices.Clone(b)
	out[at] ^= by
	return out
}

func checkTake(t *testing.T, b []byte, at int) {
	t.Helper()
	want, is := tripleAt(b, at)
	if got, ok := impl.WirTake(b, at); got != want || ok != is {
		t.Fatalf("WirTake(%v, %d) = %d, %v, not %d, %v", b, at, got, ok, want, is)
	}
}

// checkPut asks for a number that is sent, behind some bytes.
func checkPut(t *testing.T, b []byte, n int) {
	t.Helper()
	got := impl.WirPut(b, n)
	if want := slices.Concat(b, triple(n)); !bytes.Equal(got, want) {
		t.Fatalf("WirPut(%v, %d) = %v, not %v", b, n, got, want)
	}
	checkTake(t, got, len(b))
}

// checkRoundTrip asks for a paper's bytes, and what is read of them.
func checkRoundTrip(t *testing.T, p prog, part []int, c cert) {
	t.Helper()
	b := impl.CrtBytes(p, part, c)
	if want := paperBytes(c); !bytes.Equal(b, want) {
		t.Fatalf("of the part %v of %+v CrtBytes(%+v) = %v, not %v", part, p, c, b, want)
	}
	if got, ok := impl.CrtRead(p, part, b); !ok || !sameCert(got, c) {
		t.Fatalf("of the part %v of %+v the paper %+v is read as %+v, %v", part, p, c, got, ok)
	}
}

// checkPaperIn asks what is read of bytes that may be a paper's; it says whether they are.
func checkPaperIn(t *testing.T, p prog, part []int, b []byte) bool {
	t.Helper()
	want, is := paperIn(p, part, b)
	got, ok := impl.CrtRead(p, part, b)
	if ok != is || !sameCert(got, want) {
		t.Fatalf("of the part %v of %+v CrtRead(%v) = %+v, %v, not %+v, %v", part, p, b, got, ok, want, is)
	}
	if ok && (!impl.CrtOk(p, part, got) || !bytes.Equal(impl.CrtBytes(p, part, got), b)) {
		t.Fatalf("of the part %v of %+v CrtRead(%v) = %+v, which is not ok, or has other bytes", part, p, b, got)
	}
	return ok
}

// checkFrameIn asks what is taken of bytes that may begin with a frame; it says how many bytes that has.
func checkFrameIn(t *testing.T, b []byte) (int, bool) {
	t.Helper()
	want, size, is := frameIn(b)
	body, many, ok := impl.FrmTake(b)
	if ok != is || many != size || !bytes.Equal(body, want) {
		t.Fatalf("FrmTake(%v) = %v, %d, %v, not %v, %d, %v", b, body, many, ok, want, size, is)
	}
	if ok && !bytes.Equal(impl.FrmPut(body), b[:many]) {
		t.Fatalf("FrmTake(%v) = %v, %d, and its frame is %v", b, body, many, impl.FrmPut(body))
	}
	return many, ok
}

// checkFramed asks for a body's frame, and for what is taken of it with others behind it.
func checkFramed(t *testing.T, body []byte, behind ...byte) []byte {
	t.Helper()
	f := impl.FrmPut(body)
	if want := framed(body); !bytes.Equal(f, want) {
		t.Fatalf("FrmPut(%v) = %v, not %v", body, f, want)
	}
	if many, ok := checkFrameIn(t, slices.Concat(f, behind)); !ok || many != len(body)+4 {
		t.Fatalf("of the frame of %v with %v behind it %d bytes are taken: %v", body, behind, many, ok)
	}
	return f
}
