package tests

import (
	"bytes"
	"encoding/hex"
	"math"
	"slices"
	"strings"
	"testing"

	"loop.example/outwork/impl"
)

func TestWireConstants(t *testing.T) {
	for _, c := range [][2]int{{impl.WirMax, 8000000}, {impl.FrmMax, 2000}} {
		if c[0] != c[1] {
			t.Errorf("%d should be %d", c[0], c[1])
		}
	}
}

// bytesIn reads bytes that are written out, two digits each; spaces stand between them as one likes.
func bytesIn(t *testing.T, digits string) []byte {
	t.Helper()
	b, err := hex.DecodeString(strings.ReplaceAll(digits, " ", ""))
	if err != nil {
		t.Fatal(digits, err)
	}
	return b
}

func TestNumbersAsTheyAreSent(t *testing.T) {
	for _, c := range []struct {
		n      int
		digits string
	}{
		{-8000000, "000000"}, {-7999999, "000001"}, {-7999745, "0000ff"}, {-7999744, "000100"}, {-7934465, "00ffff"}, {-7934464, "010000"},
		{-32769, "7991ff"}, {-32768, "799200"}, {-2, "7a11fe"}, {-1, "7a11ff"}, {0, "7a1200"}, {1, "7a1201"}, {238, "7a12ee"}, {256, "7a1300"},
		{5000, "7a2588"}, {32767, "7a91ff"}, {32768, "7a9200"}, {7999999, "f423ff"}, {8000000, "f42400"},
	} {
		want := bytesIn(t, c.digits)
		for _, ahead := range []string{"", "00", "ff", "0102", "f42401", "7a1200 7a", "00000000 00000000"} {
			b := bytesIn(t, ahead)
			got := impl.WirPut(b, c.n)
			if !bytes.Equal(got, append(slices.Clone(b), want...)) {
				t.Errorf("WirPut(%v, %d) = %v", b, c.n, got)
			}
			if n, ok := impl.WirTake(got, len(b)); n != c.n || !ok {
				t.Errorf("WirTake(%v, %d) = %d, %v", got, len(b), n, ok)
			}
			// Whatever stands behind it makes no difference.
			if n, ok := impl.WirTake(append(got, 9, 9), len(b)); n != c.n || !ok {
				t.Errorf("with others behind it %v is read as %d, %v", got, n, ok)
			}
		}
	}
}

// At each place of bytes there is another number, or none; at the last two there are too few.
func TestWirTakeAtEachPlace(t *testing.T) {
	b := bytesIn(t, "7a1200 f42400 f42401 00 00 00")
	for at, want := range []int{0, 0x1200f4 - 8000000, 0x00f424 - 8000000, 8000000, 0x2400f4 - 8000000, 0x00f424 - 8000000, none, 0x240100 - 8000000, 0x010000 - 8000000, -8000000, none, none, none} {
		n, ok := impl.WirTake(b, at)
		if want == none && (ok || n != 0) || want != none && (!ok || n != want) {
			t.Errorf("WirTake(%v, %d) = %d, %v", b, at, n, ok)
		}
		checkTake(t, b, at)
	}
	for size := range 7 {
		for at := -1; at <= size+1; at++ {
			n, ok := impl.WirTake(make([]byte, size), at)
			if is := at >= 0 && at+3 <= size; ok != is || is && n != -8000000 || !is && n != 0 {
				t.Errorf("at %d of %d bytes there is %d, %v", at, size, n, ok)
			}
		}
	}
}

// none stands for what is not there.
const none = math.MinInt

// wiredCase is a paper, and its bytes, written out.
type wiredCase struct {
	name  string
	part  []int
	lines []string
	bytes []string
}

func checkWired(t *testing.T, p prog, cases []wiredCase) {
	t.Helper()
	for _, c := range cases {
		paper, b := paperOf(t, c.lines...), bytesIn(t, strings.Join(c.bytes, ""))
		if got := impl.CrtBytes(p, c.part, paper); !bytes.Equal(got, b) {
			t.Errorf("%s: CrtBytes is %x, not %x", c.name, got, b)
		}
		if got, ok := impl.CrtRead(p, c.part, b); !ok || !sameCert(got, paper) {
			t.Errorf("%s: CrtRead is %+v, %v", c.name, got, ok)
		}
		checkRoundTrip(t, p, c.part, paper)
	}
}

func TestPapersBytesOfOneProcedure(t *testing.T) {
	p := read(t, "procs 1", "proc 0 3 size 2", "jump 1", "ret a")
	zeros := strings.Repeat("7a1200", 8)
	entry := "01 7a1200 7a1203" + zeros
	all := "799200 7a91ff"
	checkWired(t, p, []wiredCase{
		{"nothing comes anywhere", []int{0}, []string{"-", "-", "gives -"}, []string{"00", "00", "00"}},
		{"at the beginning", []int{0}, []string{"0..3 0 0 0 0", "-", "gives -"}, []string{entry, "00", "00"}},
		{"at the end", []int{0}, []string{"-", "0..3 0 0 0 0", "gives -"}, []string{"00", entry, "00"}},
		{"just given", []int{0}, []string{"-", "-", "gives -1..1"}, []string{"00", "00", "01 7a11ff 7a1201"}},
		{"everywhere", []int{0}, []string{"0..3 0 0 0 0", "0..3 0 0 0 0", "gives 0..3"}, []string{entry, entry, "01 7a1200 7a1203"}},
		{"all variables, and the cells", []int{0}, []string{"1..2 3..4 5..6 7..8 9..10", "-", "gives -"}, []string{"01 7a1201 7a1202 7a1203 7a1204 7a1205 7a1206 7a1207 7a1208 7a1209 7a120a", "00", "00"}},
		{"ends at NumMin and NumMax", []int{0}, []string{"-", "-32768 32767 -32768..32767 -32768..0 0..32767", "gives -32768..32767"},
			[]string{"00", "01 799200 799200 7a91ff 7a91ff", all, "799200 7a1200 7a1200 7a91ff", "01", all}},
	})
}

// Procedure by procedure its states and its sum, of those of the part alone.
func TestPapersBytesOfSeveralProcedures(t *testing.T) {
	p := read(t, "procs 3", "proc 0 3 size 1", "ret a", "proc 0 9 size 2", "call b 2 a", "ret b", "proc 0 9 size 2", "call b 1 a", "ret b")
	two := "01" + strings.Repeat("7a1202", 10)
	three := "01" + strings.Repeat("7a1203", 10)
	none := []string{"-", "-", "gives -"}
	checkWired(t, p, []wiredCase{
		{"of two nothing", []int{1, 2}, slices.Concat(none, none), []string{"000000", "000000"}},
		{"of two the first gives", []int{1, 2}, slices.Concat([]string{"-", "-", "gives 2"}, none), []string{"0000", "017a12027a1202", "000000"}},
		{"of two the second gives", []int{1, 2}, slices.Concat(none, []string{"-", "-", "gives 2"}), []string{"000000", "0000", "017a12027a1202"}},
		{"of two mixed", []int{1, 2}, []string{"-", "2 2 2 2 2", "gives -", "3 3 3 3 3", "-", "gives 3"}, []string{"00", two, "00", three, "00", "017a12037a1203"}},
		{"of the first alone", []int{0}, []string{"2 2 2 2 2", "gives 3"}, []string{two, "017a12037a1203"}},
		{"not all of them", []int{0, 2}, []string{"-", "gives 2", "-", "3 3 3 3 3", "gives -"}, []string{"00", "017a12027a1202", "00", three, "00"}},
		{"all of them", []int{0, 1, 2}, []string{"2 2 2 2 2", "gives -", "3 3 3 3 3", "-", "gives 3", "-", "2 2 2 2 2", "gives -"},
			[]string{two, "00", three, "00", "017a12037a1203", "00", two, "00"}},
	})
}

// The greatest paper there can be still is no more than a frame's body.
func TestTheGreatestPaper(t *testing.T) {
	p, part := program(10, 10, 10, 10), []int{0, 1, 2, 3}
	full := fullCert(p, part)
	checkRoundTrip(t, p, part, full)
	b := impl.CrtBytes(p, part, full)
	if want := 4 * (10*(1+5*6) + 1 + 6); len(b) != want || len(impl.FrmPut(b)) != want+4 {
		t.Errorf("it has %d bytes, not %d", len(b), want)
	}
	checkRoundTrip(t, p, part, startOf(p, part))
	if got := impl.CrtBytes(p, part, startOf(p, part)); !bytes.Equal(got, make([]byte, 44)) {
		t.Errorf("the least one is %v", got)
	}
}

func TestFrmSumOfFewBytes(t *testing.T) {
	for _, c := range []struct {
		b    []byte
		want int
	}{
		{nil, 1}, {[]byte{}, 1}, {[]byte{0}, 257}, {[]byte{1}, 258}, {[]byte{255}, 512},
		// From here on there is more than 65521, and that is taken away.
		{[]byte{0, 0}, 528}, {[]byte{0, 1}, 529}, {[]byte{1, 0}, 785}, {[]byte{255, 255}, 797}, {[]byte{0, 0, 0}, 4654}, {[]byte{1, 2, 3}, 5699}, {[]byte{3, 2, 1}, 6753},
		{bytes.Repeat([]byte{255}, 255), 26813}, {bytes.Repeat([]byte{255}, 2000), 61282}, {make([]byte, 1000), 21551},
	} {
		if got := impl.FrmSum(c.b); got != c.want {
			t.Errorf("FrmSum(%v) = %d, not %d", c.b, got, c.want)
		}
	}
}

func TestFrmSumOfOneByteManyTimes(t *testing.T) {
	last := 1
	for size := range 3000 {
		got := impl.FrmSum(bytes.Repeat([]byte{255}, size))
		if got != last || got < 0 || got > 65520 {
			t.Fatalf("of %d bytes 255 the sum is %d, not %d", size, got, last)
		}
		last = (last*257 + 255) % 65521
	}
	for _, size := range []int{65520, 65521, 100000, 1000000} {
		b := bytes.Repeat([]byte{255}, size)
		if got := impl.FrmSum(b); got != sumOver(b) {
			t.Errorf("of %d bytes 255 the sum is %d, not %d", size, got, sumOver(b))
		}
	}
}

func TestFramesAsTheyAreWritten(t *testing.T) {
	for _, c := range []struct{ body, frame string }{
		{"", "0000 0210"},
		{"00", "0001 00 132f"},
		{"ff", "0001 ff 142e"},
		{"0708", "0002 0708 4c6b"},
	} {
		body, frame := bytesIn(t, c.body), bytesIn(t, c.frame)
		if got := impl.FrmPut(body); !bytes.Equal(got, frame) {
			t.Errorf("the frame of %x is %x, not %x", body, got, frame)
		}
		for _, behind := range [][]byte{nil, {0}, frame, frame[:3]} {
			if got, many, ok := impl.FrmTake(slices.Concat(frame, behind)); !ok || many != len(frame) || !bytes.Equal(got, body) {
				t.Errorf("of %x with %x behind it there is taken %x, %d, %v", frame, behind, got, many, ok)
			}
		}
	}
	for _, size := range []int{0, 1, 255, 256, 1999, 2000} {
		for _, one := range []byte{0, 1, 255} {
			body := bytes.Repeat([]byte{one}, size)
			f := checkFramed(t, body)
			if len(f) != size+4 || int(f[0])*256+int(f[1]) != size || !bytes.Equal(f[2:2+size], body) || int(f[size+2])*256+int(f[size+3]) != impl.FrmSum(f[:size+2]) {
				t.Errorf("the frame of %d bytes %d is %v", size, one, f)
			}
		}
	}
}

// Frames one behind the other are taken one by one.
func TestFramesBehindEachOther(t *testing.T) {
	bodies := [][]byte{{1, 2, 3}, nil, {0}, bytes.Repeat([]byte{7}, 256), nil, bytes.Repeat([]byte{255}, 2000), {9}}
	var all []byte
	for _, body := range bodies {
		all = append(all, impl.FrmPut(body)...)
	}
	for k, want := range bodies {
		body, many, ok := impl.FrmTake(all)
		if !ok || !bytes.Equal(body, want) || many != len(want)+4 {
			t.Fatalf("frame %d is %v, %d, %v", k, body, many, ok)
		}
		all = all[many:]
	}
	if body, many, ok := impl.FrmTake(all); ok || many != 0 || len(body) != 0 {
		t.Errorf("behind all there is %v, %d", body, many)
	}
}

// A length that is turned may make a shorter frame of what a longer one begins with; all the bytes are none all the same.
func TestAByteOfTheLength(t *testing.T) {
	short := framed([]byte{5, 6, 7})
	// The body begins with what the shorter frame has behind its length.
	long := framed(append(slices.Clone(short[2:]), 1, 2))
	if _, many, ok := impl.FrmTake(long); !ok || many != len(long) {
		t.Fatalf("of %v there are taken %d bytes, %v", long, many, ok)
	}
	x := xored(long, 1, long[1]^short[1])
	if body, many, ok := impl.FrmTake(x); !ok || many != len(short) || many == len(x) || !bytes.Equal(body, short[2:5]) {
		t.Errorf("of %v there is taken %v, %d, %v", x, body, many, ok)
	}
	f := impl.FrmPut(bytes.Repeat([]byte{3}, 300))
	for at := range 2 {
		for by := 1; by < 256; by++ {
			x := xored(f, at, byte(by))
			if _, many, ok := checkedTake(t, x); ok && many == len(x) {
				t.Errorf("with byte %d xor %d it is a frame", at, by)
			}
			// Though all be there that it tells of.
			if _, many, ok := checkedTake(t, append(x, make([]byte, 3000)...)); ok {
				t.Errorf("with byte %d xor %d, and more behind it, it begins with a frame of %d bytes", at, by, many)
			}
		}
	}
}

func checkedTake(t *testing.T, b []byte) ([]byte, int, bool) {
	t.Helper()
	checkFrameIn(t, b)
	return impl.FrmTake(b)
}
