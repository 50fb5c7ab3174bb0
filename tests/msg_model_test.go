package tests

import (
	"bytes"
	"math/rand"
	"slices"
	"testing"

	"loop.example/outwork/impl"
)

type message = impl.MsgMsg

const (
	isJob    = 1
	saysDone = 2
	beats    = 3
	lastWho  = 2
	mostSeq  = 5000
)

// sameMessage takes a list that is empty and one that is nil for the same.
func sameMessage(a, b message) bool {
	return a.Kind == b.Kind && a.Who == b.Who && a.Part == b.Part && a.Epoch == b.Epoch && a.Seq == b.Seq && slices.Equal(a.Sums, b.Sums) && sameCert(a.Cert, b.Cert)
}

// isMessage is what MsgOk should tell by a program that is ok.
func isMessage(p prog, m message) bool {
	parts := listsOf(p).parts
	if m.Who < 0 || m.Who > lastWho || m.Part < 0 || m.Part >= len(parts) || min(m.Epoch, m.Seq) < 1 || max(m.Epoch, m.Seq) > mostSeq {
		return false
	}
	switch m.Kind {
	case isJob:
		return areSums(p, m.Sums) && sameCert(m.Cert, cert{})
	case saysDone:
		return len(m.Sums) == 0 && isCert(p, parts[m.Part], m.Cert)
	}
	return m.Kind == beats && len(m.Sums) == 0 && sameCert(m.Cert, cert{})
}

// bodyBytes is the body of a message's frame, of one that is ok; of others whatever its numbers leave in bytes.
func bodyBytes(m message) []byte {
	out := slices.Concat([]byte{byte(m.Kind), byte(m.Who), byte(m.Part)}, triple(m.Epoch), triple(m.Seq))
	for _, s := range m.Sums {
		out = append(out, sumBytes(s)...)
	}
	return append(out, paperBytes(m.Cert)...)
}

// messageIn is what MsgRead should tell by a program that is ok.
func messageIn(p prog, b []byte) (message, bool) {
	body, size, is := frameIn(b)
	if !is || size != len(b) || len(body) < 9 {
		return message{}, false
	}
	m := message{Kind: int(body[0]), Who: int(body[1]), Part: int(body[2])}
	var isEpoch, isSeq bool
	m.Epoch, isEpoch = tripleAt(body, 3)
	m.Seq, isSeq = tripleAt(body, 6)
	w := &leftover{left: body[9:], none: !isEpoch || !isSeq}
	parts := listsOf(p).parts
	if m.Kind == isJob {
		for range p.Procs {
			m.Sums = append(m.Sums, w.sum())
		}
	}
	if m.Kind == saysDone && m.Part < len(parts) {
		m.Cert = w.paper(p, parts[m.Part])
	}
	if !w.ends() || !isMessage(p, m) {
		return message{}, false
	}
	return m, true
}

// checkMessage asks all that is told of a message, whether it is ok or not.
func checkMessage(t *testing.T, p prog, m message) {
	t.Helper()
	is := isMessage(p, m)
	if got := impl.MsgOk(p, m); got != is {
		t.Fatalf("by %+v MsgOk(%+v) is %v", p, m, got)
	}
	b := impl.MsgBytes(p, m)
	if !is {
		if len(b) != 0 {
			t.Fatalf("by %+v MsgBytes(%+v) = %v", p, m, b)
		}
		return
	}
	if want := framed(bodyBytes(m)); !bytes.Equal(b, want) {
		t.Fatalf("by %+v MsgBytes(%+v) = %v, not %v", p, m, b, want)
	}
	if got, ok := impl.MsgRead(p, b); !ok || !sameMessage(got, m) {
		t.Fatalf("by %+v %+v is read as %+v, %v", p, m, got, ok)
	}
}

// checkMessageIn asks what is read of bytes that may be a message's; it says whether they are.
func checkMessageIn(t *testing.T, p prog, b []byte) bool {
	t.Helper()
	want, is := messageIn(p, b)
	got, ok := impl.MsgRead(p, b)
	if ok != is || !sameMessage(got, want) {
		t.Fatalf("by %+v MsgRead(%v) = %+v, %v, not %+v, %v", p, b, got, ok, want, is)
	}
	if ok && (!impl.MsgOk(p, got) || !bytes.Equal(impl.MsgBytes(p, got), b)) {
		t.Fatalf("by %+v MsgRead(%v) = %+v, which is not ok, or has other bytes", p, b, got)
	}
	return ok
}

// headOf is a message of which all is drawn that each has, the ends more often than others.
func headOf(r *rand.Rand, p prog, kind int) message {
	number := func() int { return []int{1, 2, mostSeq - 1, mostSeq, 255, 256, 1 + r.Intn(mostSeq)}[r.Intn(7)] }
	return message{Kind: kind, Who: r.Intn(lastWho + 1), Part: r.Intn(len(impl.GrfParts(p))), Epoch: number(), Seq: number()}
}

// drawnMessage is ok.
func drawnMessage(r *rand.Rand, p prog, kind int) message {
	m := headOf(r, p, kind)
	switch kind {
	case isJob:
		m.Sums = drawnSums(r, p)
	case saysDone:
		m.Cert = paperOfPart(r, p, impl.GrfParts(p)[m.Part])
	}
	return m
}

func paperOfPart(r *rand.Rand, p prog, part []int) cert {
	switch r.Intn(4) {
	case 0:
		return startOf(p, part)
	case 1:
		return fullCert(p, part)
	case 2:
		made, _ := impl.EngRun(p, drawnSums(r, p), part)
		return made
	}
	return drawnCert(r, p, part)
}

// eachMessage sees messages of each kind, of programs drawn.
func eachMessage(many int, see func(r *rand.Rand, p prog, m message)) {
	eachSeq(many, func(r *rand.Rand, p prog) {
		for kind := isJob; kind <= beats; kind++ {
			see(r, p, drawnMessage(r, p, kind))
		}
	})
}
