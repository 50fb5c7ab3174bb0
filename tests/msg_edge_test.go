package tests

import (
	"bytes"
	"fmt"
	"slices"
	"strings"
	"testing"

	"loop.example/outwork/impl"
)

func TestMsgConstants(t *testing.T) {
	for _, c := range [][2]int{{impl.MsgJob, 1}, {impl.MsgDone, 2}, {impl.MsgBeat, 3}, {impl.NumWorkers, 3}, {impl.NumSeq, 5000}} {
		if c[0] != c[1] {
			t.Errorf("%d should be %d", c[0], c[1])
		}
	}
}

// twoParts is a program of two parts, of procedures 0 and 2, and of procedure 1; nobody calls procedure 3.
func twoParts(t *testing.T) prog {
	return read(t, "procs 4",
		"proc 0 3 size 3", "call b 1 a", "call b 2 b", "ret b",
		"proc 0 3 size 1", "ret a",
		"proc 0 3 size 2", "call a 0 a", "ret a",
		"proc 0 3 size 2", "call a 1 a", "ret a")
}

func TestMessagesAsTheyAreWritten(t *testing.T) {
	p := twoParts(t)
	threes := "01" + strings.Repeat("7a1203", 10)
	for _, c := range []struct {
		name string
		m    message
		body string
	}{
		{"somebody is at it", message{Kind: 3, Who: 2, Part: 1, Epoch: 3, Seq: 5}, "03 02 01 7a1203 7a1205"},
		{"at both least ends", message{Kind: 3, Who: 0, Part: 0, Epoch: 1, Seq: 1}, "03 00 00 7a1201 7a1201"},
		{"at both greatest ends", message{Kind: 3, Who: 2, Part: 1, Epoch: 5000, Seq: 5000}, "03 02 01 7a2588 7a2588"},
		{"a job, and nothing is given", message{Kind: 1, Who: 1, Part: 0, Epoch: 1, Seq: 2, Sums: make([]sum, 4)}, "01 01 00 7a1201 7a1202 00 00 00 00"},
		{"a job, and some is given", message{Kind: 1, Who: 1, Part: 1, Epoch: 2, Seq: 1, Sums: []sum{{}, gives(-1, 1), {}, gives(least, greatest)}},
			"01 01 01 7a1202 7a1201 00 01 7a11ff 7a1201 00 01 799200 7a91ff"},
		{"done, and nothing comes", message{Kind: 2, Who: 0, Part: 1, Epoch: 1, Seq: 2, Cert: paperOf(t, "-", "gives -")}, "02 00 01 7a1201 7a1202 00 00"},
		{"done, and something comes", message{Kind: 2, Who: 2, Part: 1, Epoch: 4, Seq: 9, Cert: paperOf(t, "3 3 3 3 3", "gives 3..5")}, "02 02 01 7a1204 7a1209" + threes + "01 7a1203 7a1205"},
		{"done by two", message{Kind: 2, Who: 2, Part: 0, Epoch: 4, Seq: 9, Cert: paperOf(t, "-", "3 3 3 3 3", "-", "gives -", "3 3 3 3 3", "-", "gives 3")},
			"02 02 00 7a1204 7a1209 00" + threes + "00 00" + threes + "00 01 7a1203 7a1203"},
	} {
		want := framed(bytesIn(t, c.body))
		if got := impl.MsgBytes(p, c.m); !bytes.Equal(got, want) {
			t.Errorf("%s: MsgBytes is %x, not %x", c.name, got, want)
		}
		if got, ok := impl.MsgRead(p, want); !ok || !sameMessage(got, c.m) {
			t.Errorf("%s: MsgRead is %+v, %v", c.name, got, ok)
		}
		checkMessage(t, p, c.m)
	}
}

// goodMessages are one of each kind.
func goodMessages(t *testing.T) []message {
	return []message{
		{Kind: isJob, Who: 1, Part: 1, Epoch: 7, Seq: 8, Sums: []sum{gives(1, 2), {}, gives(3, 3), {}}},
		{Kind: saysDone, Who: 1, Part: 1, Epoch: 7, Seq: 8, Cert: paperOf(t, "3 3 3 3 3", "gives 3..5")},
		{Kind: saysDone, Who: 1, Part: 0, Epoch: 7, Seq: 8, Cert: paperOf(t, "-", "3 3 3 3 3", "-", "gives -", "3 3 3 3 3", "-", "gives 3")},
		{Kind: beats, Who: 1, Part: 1, Epoch: 7, Seq: 8},
	}
}

// Who, Epoch and Seq at both ends, and beyond them; each by itself, of each kind, in a message and in bytes.
func TestEndsOfWhatAllMessagesHave(t *testing.T) {
	p := twoParts(t)
	for _, good := range goodMessages(t) {
		for _, who := range []int{-1, 0, 1, 2, 3, 4, 255, 256, 257, 258, -254} {
			m := good
			m.Who = who
			seeEnd(t, p, m, who >= 0 && who <= 2)
		}
		for _, n := range []int{-5000, -1, 0, 1, 2, 4999, 5000, 5001, 65537, 1<<24 + 1, farthest, -farthest} {
			m := good
			m.Epoch = n
			seeEnd(t, p, m, n >= 1 && n <= 5000)
			m = good
			m.Seq = n
			seeEnd(t, p, m, n >= 1 && n <= 5000)
		}
	}
}

// seeEnd asks whether a message is ok; if all that it has can be written it is read, too, or not.
func seeEnd(t *testing.T, p prog, m message, is bool) {
	t.Helper()
	if impl.MsgOk(p, m) != is || isMessage(p, m) != is {
		t.Errorf("%+v is ok: %v", m, !is)
	}
	checkMessage(t, p, m)
	written := m.Who >= 0 && m.Who < 256 && m.Part >= 0 && m.Part < 256 && m.Kind >= 0 && m.Kind < 256 && max(m.Epoch, m.Seq) <= farthest && min(m.Epoch, m.Seq) >= -farthest
	if written && checkMessageIn(t, p, framed(bodyBytes(m))) != is {
		t.Errorf("%+v is read: %v", m, !is)
	}
}

// eachCalls is a program in which each procedure calls all behind it: so each is a part.
func eachCalls(t *testing.T, many int) prog {
	lines := []string{fmt.Sprintf("procs %d", many)}
	for k := range many {
		lines = append(lines, fmt.Sprintf("proc 0 3 size %d", many-k))
		for other := k + 1; other < many; other++ {
			lines = append(lines, fmt.Sprintf("call b %d a", other))
		}
		lines = append(lines, "ret b")
	}
	return read(t, lines...)
}

// Of each part of programs of one to four parts, and beyond.
func TestMessagesOfEachPart(t *testing.T) {
	for many := 1; many <= mostProcs; many++ {
		p := eachCalls(t, many)
		for part := -2; part < many+3; part++ {
			is := part >= 0 && part < many
			seeEnd(t, p, message{Kind: beats, Who: 1, Part: part, Epoch: 2, Seq: 3}, is)
			seeEnd(t, p, message{Kind: isJob, Who: 1, Part: part, Epoch: 2, Seq: 3, Sums: make([]sum, many)}, is)
			for k := range many {
				c := fullCert(p, []int{k})
				seeEnd(t, p, message{Kind: saysDone, Who: 1, Part: part, Epoch: 2, Seq: 3, Cert: c}, part == k)
			}
		}
		for _, part := range []int{255, 256, 256 + many - 1, -256, 1 << 20} {
			seeEnd(t, p, message{Kind: beats, Who: 1, Part: part, Epoch: 2, Seq: 3}, false)
		}
	}
}

// A job has a sum for each procedure, those that cannot be come to among them.
func TestJobsOfEachCountOfProcedures(t *testing.T) {
	for many := 1; many <= mostProcs; many++ {
		for _, p := range []prog{program(slices.Repeat([]int{1}, many)...), program(slices.Repeat([]int{10}, many)...)} {
			for given := range 1 << many {
				m := message{Kind: isJob, Who: 0, Part: 0, Epoch: 1, Seq: 1, Sums: make([]sum, many)}
				for k := range many {
					if given>>k&1 == 1 {
						m.Sums[k] = gives(-k, k)
					}
				}
				seeEnd(t, p, m, true)
				seeEnd(t, p, message{Kind: isJob, Who: 0, Part: 0, Epoch: 1, Seq: 1, Sums: m.Sums[1:]}, false)
				seeEnd(t, p, message{Kind: isJob, Who: 0, Part: 0, Epoch: 1, Seq: 1, Sums: append(slices.Clone(m.Sums), sum{})}, false)
			}
		}
	}
}

// The longest message there can be is no more than a frame's body.
func TestTheLongestMessage(t *testing.T) {
	p := prog{}
	for k := range mostProcs {
		c := program(mostSteps).Procs[0]
		// Each calls the next one, and the last one the first: so all are one part.
		c.Code[0] = ins{Op: impl.OpCall, To: (k + 1) % mostProcs}
		p.Procs = append(p.Procs, c)
	}
	part := []int{0, 1, 2, 3}
	m := message{Kind: saysDone, Who: 2, Part: 0, Epoch: 5000, Seq: 5000, Cert: fullCert(p, part)}
	checkMessage(t, p, m)
	if got, want := len(impl.MsgBytes(p, m)), 4+9+4*(10*31+7); got != want {
		t.Errorf("it has %d bytes, not %d", got, want)
	}
}
