package tests

import (
	"math"
	"math/rand"
	"slices"
	"testing"

	"loop.example/outwork/impl"
)

// mustBeNoMessage asks that a message is not ok, and has no bytes.
func mustBeNoMessage(t *testing.T, p prog, m message) {
	t.Helper()
	if b := impl.MsgBytes(p, m); impl.MsgOk(p, m) || len(b) != 0 {
		t.Fatalf("by %+v %+v is ok: %v, and has the bytes %v", p, m, impl.MsgOk(p, m), b)
	}
}

// farOut are far beyond all bounds, some of them by so much that a byte, three, or a word of memory are around.
func farOut() []int {
	return append(farNumbers(), -1000000, 1000000, -256, 65536, 65537, -65535, 1<<24+1, 1<<32+1, 1<<32+2, 1<<32+3)
}

func TestMessagesOfOtherKinds(t *testing.T) {
	p := twoParts(t)
	for _, good := range goodMessages(t) {
		for _, kind := range append(farOut(), -3, -2, -1, 0, 4, 5, 255, 256, 257, 258, 259) {
			m := good
			m.Kind = kind
			mustBeNoMessage(t, p, m)
			checkMessageIn(t, p, framed(bodyBytes(m)))
		}
		// Of another one of the three kinds it has what that does not have, or has too little.
		for _, kind := range []int{isJob, saysDone, beats} {
			m := good
			m.Kind = kind
			if kind == good.Kind {
				checkMessage(t, p, m)
				continue
			}
			mustBeNoMessage(t, p, m)
			mustReadNoMessage(t, p, framed(bodyBytes(m)))
		}
		body := bodyBytes(good)
		for kind := range 256 {
			body[0] = byte(kind)
			if checkMessageIn(t, p, framed(body)) != (kind == good.Kind) {
				t.Errorf("as kind %d %+v is read", kind, good)
			}
		}
	}
}

func TestMessagesFarBeyondTheEnds(t *testing.T) {
	p := twoParts(t)
	for _, good := range goodMessages(t) {
		for _, n := range farOut() {
			for _, turn := range []func(m *message){
				func(m *message) { m.Who = n }, func(m *message) { m.Part = n }, func(m *message) { m.Epoch = n }, func(m *message) { m.Seq = n },
				func(m *message) { m.Kind, m.Who, m.Part, m.Epoch, m.Seq = n, n, n, n, n },
			} {
				m := good
				turn(&m)
				mustBeNoMessage(t, p, m)
			}
		}
	}
}

// What a kind does not have is nothing, or the message is not ok; lists that are empty are nothing.
func TestMessagesWithWhatTheirKindDoesNotHave(t *testing.T) {
	p := twoParts(t)
	for _, good := range goodMessages(t) {
		for _, sums := range [][]sum{{{}}, make([]sum, 4), {gives(1, 2)}, slices.Repeat([]sum{gives(0, 0)}, 4)} {
			if good.Kind != isJob {
				m := good
				m.Sums = sums
				mustBeNoMessage(t, p, m)
			}
		}
		for _, c := range []cert{{States: [][]state{{}}}, {States: [][]state{nil}}, {Outs: []sum{{}}}, startOf(p, []int{1}), fullCert(p, []int{0, 2}), fullCert(p, []int{1})} {
			if good.Kind != saysDone {
				m := good
				m.Cert = c
				mustBeNoMessage(t, p, m)
			}
		}
		m := good
		if m.Kind != isJob {
			m.Sums = []sum{}
		}
		if m.Kind != saysDone {
			m.Cert = cert{States: [][]state{}, Outs: []sum{}}
		}
		if !impl.MsgOk(p, m) {
			t.Errorf("%+v is not ok", m)
		}
		checkMessage(t, p, m)
	}
}

func TestMessagesWithWrongSums(t *testing.T) {
	for many := 1; many <= mostProcs; many++ {
		p := program(slices.Repeat([]int{2}, many)...)
		m := message{Kind: isJob, Who: 0, Part: 0, Epoch: 1, Seq: 1, Sums: make([]sum, many)}
		checkMessage(t, p, m)
		for _, sums := range append(badSums(many), nil, []sum{}) {
			m.Sums = sums
			mustBeNoMessage(t, p, m)
		}
	}
}

func TestMessagesWithWrongPapers(t *testing.T) {
	p := twoParts(t)
	for k, part := range [][]int{{0, 2}, {1}} {
		for _, bad := range badCerts(p, part) {
			mustBeNoMessage(t, p, message{Kind: saysDone, Who: 0, Part: k, Epoch: 1, Seq: 1, Cert: bad})
		}
		for _, other := range anyParts(4) {
			for _, c := range []cert{startOf(p, other), fullCert(p, other)} {
				m := message{Kind: saysDone, Who: 0, Part: k, Epoch: 1, Seq: 1, Cert: c}
				if isCert(p, part, c) {
					checkMessage(t, p, m)
					continue
				}
				mustBeNoMessage(t, p, m)
				mustReadNoMessage(t, p, framed(bodyBytes(m)))
			}
		}
	}
}

func TestMessagesOfProgramsThatAreNotOk(t *testing.T) {
	ok := twoParts(t)
	for _, p := range badPrograms(t) {
		for _, m := range append(goodMessages(t), message{Kind: isJob, Epoch: 1, Seq: 1, Sums: make([]sum, len(p.Procs))}, message{Kind: beats, Epoch: 1, Seq: 1}, message{Kind: saysDone, Epoch: 1, Seq: 1}, message{Kind: saysDone, Epoch: 1, Seq: 1, Cert: paperFor(p, []int{0})}, message{}) {
			mustBeNoMessage(t, p, m)
			mustReadNoMessage(t, p, framed(bodyBytes(m)))
			mustReadNoMessage(t, p, impl.MsgBytes(ok, m))
		}
	}
}

func TestMsgReadOfWhatIsNoMessage(t *testing.T) {
	p := twoParts(t)
	for _, b := range [][]byte{nil, {}, {0}, {3, 0, 0}, framed(nil), framed([]byte{3}), framed(make([]byte, 9)), framed(make([]byte, longest)), framed(make([]byte, longest+1))} {
		mustReadNoMessage(t, p, b)
	}
	for _, good := range goodMessages(t) {
		body := bodyBytes(good)
		f := framed(body)
		for _, b := range [][]byte{
			append(slices.Clone(f), f...), append(slices.Clone(f), 0), append([]byte{0}, f...), f[:len(f)-1], f[1:], body,
			append(slices.Clone(f), framed(nil)...), append(framed(nil), f...), framed(f),
			framed(append(slices.Clone(body), 0)), framed(append(slices.Clone(body), 1)), framed(append(slices.Clone(body), body...)), framed(append([]byte{0}, body...)), framed(body[1:]),
		} {
			mustReadNoMessage(t, p, b)
		}
		// Each beginning of a body, in a right frame.
		for size := range body {
			mustReadNoMessage(t, p, framed(body[:size]))
		}
	}
}

// In a right frame each byte of a body is turned to each other one: just what can be so is read.
func TestMsgReadOfEachBodyWithAByteTurned(t *testing.T) {
	p := twoParts(t)
	for _, good := range goodMessages(t) {
		body := bodyBytes(good)
		for at := range body {
			for by := 1; by < 256; by++ {
				checkMessageIn(t, p, framed(xored(body, at, byte(by))))
			}
		}
	}
}

// messageRoom is a message with room behind the end of each list, filled.
func messageRoom(m message) message {
	m.Sums = fillRoom(append(make([]sum, 0, len(m.Sums)+3), m.Sums...), gives(71, 72))
	m.Cert = certRoom(m.Cert)
	return m
}

func TestMessagesShareNoMemory(t *testing.T) {
	check := func(p prog, m message, b []byte) {
		was := wholeOf(p, m, b)
		impl.MsgOk(p, m)
		one, _ := impl.MsgRead(p, b)
		two, _ := impl.MsgRead(p, b)
		mustBeApart(t, []any{p, m, b}, []any{impl.MsgBytes(p, m), impl.MsgBytes(p, m), one, two})
		if now := wholeOf(p, m, b); now != was {
			t.Fatalf("%s became %s", was, now)
		}
	}
	eachMessage(70, func(r *rand.Rand, given prog, drawn message) {
		p, m, body := progRoom(given), messageRoom(drawn), bodyBytes(drawn)
		for _, b := range [][]byte{framed(body), bent(r, framed(body)), framed(bent(r, body)), append(framed(body), 0), nil} {
			check(p, m, bytesRoom(b))
		}
		m.Seq = math.MaxInt
		check(p, m, bytesRoom(framed(body)))
		m = messageRoom(drawnMessage(r, p, saysDone))
		m.Sums = withSumsRoom(2)
		check(p, m, bytesRoom(framed(body)))
	})
}

func withSumsRoom(many int) []sum {
	return fillRoom(make([]sum, many, many+3), gives(71, 72))
}

// What was read can be turned, its room too, and nothing else turns.
func TestWhatIsReadOfAMessageIsNew(t *testing.T) {
	p := twoParts(t)
	for _, good := range goodMessages(t) {
		b := impl.MsgBytes(p, good)
		m, _ := impl.MsgRead(p, b)
		fillRoom(m.Sums[:0], gives(9, 9))
		for _, states := range m.Cert.States {
			fillRoom(states[:0], state{})
		}
		fillRoom(m.Cert.Outs[:0], gives(9, 9))
		if again, ok := impl.MsgRead(p, b); !ok || !sameMessage(again, good) {
			t.Errorf("%+v is read as %+v", good, again)
		}
	}
}
