package tests

import (
	"bytes"
	"math/rand"
	"slices"
	"testing"

	"loop.example/outwork/impl"
)

func TestPromise74AMessagesBytesAreReadAsIt(t *testing.T) {
	sizes := map[[2]int]int{}
	eachMessage(900, func(_ *rand.Rand, p prog, m message) {
		checkMessage(t, p, m)
		got, ok := impl.MsgRead(p, impl.MsgBytes(p, m))
		if !ok || !sameMessage(got, m) {
			t.Fatalf("by %+v %+v is read as %+v, %v", p, m, got, ok)
		}
		sizes[[2]int{m.Kind, len(p.Procs)}]++
	})
	for kind := isJob; kind <= beats; kind++ {
		for many := 1; many <= mostProcs; many++ {
			if sizes[[2]int{kind, many}] < 20 {
				t.Errorf("so often each kind was seen with so many procedures: %v", sizes)
			}
		}
	}
}

func mustReadNoMessage(t *testing.T, p prog, b []byte) {
	t.Helper()
	if got, ok := impl.MsgRead(p, b); ok || !sameMessage(got, message{}) {
		t.Fatalf("by %+v MsgRead(%v) = %+v, %v", p, b, got, ok)
	}
}

func TestPromise74WithOneByteTurnedOrOneMoreNothingIsRead(t *testing.T) {
	eachMessage(50, func(r *rand.Rand, p prog, m message) {
		b := impl.MsgBytes(p, m)
		for at := range b {
			for _, by := range []byte{1, 2, 3, 4, 8, 16, 32, 64, 128, 255, byte(1 + r.Intn(255))} {
				mustReadNoMessage(t, p, xored(b, at, by))
			}
		}
		for one := range 256 {
			mustReadNoMessage(t, p, append(slices.Clone(b), byte(one)))
		}
		for size := range b {
			mustReadNoMessage(t, p, b[:size])
		}
		mustReadNoMessage(t, p, b[1:])
	})
}

// Of a message that has nothing but what all have each byte is turned to each other one.
func TestPromise74WithEachByteTurnedToEachOther(t *testing.T) {
	p := program(2, 1)
	for _, m := range []message{{Kind: beats, Who: 0, Part: 0, Epoch: 1, Seq: 1}, {Kind: beats, Who: 2, Part: 0, Epoch: 5000, Seq: 256}, {Kind: isJob, Who: 1, Part: 0, Epoch: 2, Seq: 3, Sums: make([]sum, 2)}} {
		checkMessage(t, p, m)
		b := impl.MsgBytes(p, m)
		for at := range b {
			for by := 1; by < 256; by++ {
				mustReadNoMessage(t, p, xored(b, at, byte(by)))
			}
		}
	}
}

// What is turned in a message's body stands in a right frame here: just what is a message's body all the same is read.
func TestPromise75WhatIsReadIsAMessageAndHasTheseBytes(t *testing.T) {
	read, not := map[int]int{}, 0
	see := func(p prog, b []byte) {
		if checkMessageIn(t, p, b) {
			read[int(b[2])]++
		} else {
			not++
		}
	}
	eachMessage(300, func(r *rand.Rand, p prog, m message) {
		body := bodyBytes(m)
		see(p, framed(body))
		for range 12 {
			see(p, framed(bent(r, body)))
			see(p, framed(bent(r, bent(r, body))))
			see(p, framed(bentHead(r, body)))
			see(p, bent(r, framed(body)))
		}
		see(p, framed(drawnBytes(r, len(body))))
		see(p, drawnBytes(r, r.Intn(40)))
		see(p, body)
	})
	if read[isJob] < 1500 || read[saysDone] < 1000 || read[beats] < 1500 || len(read) != 3 || not < 15000 {
		t.Errorf("so many of each kind were read: %v, and %d were not", read, not)
	}
}

// bentHead is a body of which one of the numbers is another one that each message has, most of them within bounds.
func bentHead(r *rand.Rand, body []byte) []byte {
	out := slices.Clone(body)
	switch r.Intn(5) {
	case 0:
		out[0] = byte(r.Intn(5))
	case 1:
		out[1] = byte(r.Intn(4))
	case 2:
		out[2] = byte(r.Intn(5))
	case 3:
		copy(out[3:], triple(r.Intn(6000)-500))
	case 4:
		copy(out[6:], triple(r.Intn(6000)-500))
	}
	return out
}

// A message says nothing of the program: by another one it is read, if it is one of that.
func TestPromise75ByOtherPrograms(t *testing.T) {
	var others []prog
	eachSeq(60, func(_ *rand.Rand, p prog) { others = append(others, p) })
	read, not := 0, 0
	eachMessage(60, func(_ *rand.Rand, p prog, m message) {
		b := impl.MsgBytes(p, m)
		for _, other := range others {
			if checkMessageIn(t, other, b) {
				read++
			} else {
				not++
			}
			checkMessage(t, other, m)
		}
	})
	if read < 1000 || not < 1000 {
		t.Errorf("%d were read, and %d were not", read, not)
	}
}

// No two of them have the same bytes, though they are other in one number only.
func TestMessagesThatAreNotTheSameHaveOtherBytes(t *testing.T) {
	p := program(1, 2)
	var all []message
	for who := range 3 {
		for _, epoch := range []int{1, 2, 256, 5000} {
			for _, seq := range []int{1, 2, 256, 5000} {
				m := message{Kind: beats, Who: who, Epoch: epoch, Seq: seq}
				all = append(all, m)
				m.Kind, m.Sums = isJob, []sum{{}, {}}
				all = append(all, m)
				m.Sums = []sum{gives(0, 0), {}}
				all = append(all, m)
				m.Kind, m.Sums, m.Cert = saysDone, nil, startOf(p, []int{0})
				all = append(all, m)
			}
		}
	}
	for a, one := range all {
		for b, other := range all {
			if same := bytes.Equal(impl.MsgBytes(p, one), impl.MsgBytes(p, other)); same != (a == b) {
				t.Fatalf("%+v and %+v have the same bytes: %v", one, other, same)
			}
		}
	}
}
