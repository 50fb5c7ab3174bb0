package impl

import "strconv"

// NumMin and NumMax are the least and the greatest number.
const (
	NumMin = -32768
	NumMax = 32767
)

// What is reckoned with two numbers.
const (
	OpAdd = 1
	OpSub = 2
	OpMul = 3
	OpDiv = 4
)

// How two numbers stand.
const (
	RelLess  = 1
	RelMost  = 2
	RelSame  = 3
	RelOther = 4
)

// number is held in 16 bits, so that Go's own wrap-round is the one that is asked for, -32768 divided by -1 included.
type number int16

func (a number) plus(b number) number { return a + b }

func (a number) minus(b number) number { return a - b }

func (a number) times(b number) number { return a * b }

// over must not be asked with 0.
func (a number) over(b number) number { return a / b }

// NumOk says whether a number is one.
func NumOk(n int) bool {
	return n >= NumMin && n <= NumMax
}

// NumWrap is the number that is n but for so many times 65536.
func NumWrap(n int) int {
	return int(number(n))
}

// NumDo reckons with two numbers; false, if that cannot be.
func NumDo(op int, a int, b int) (int, bool) {
	if !NumOk(a) || !NumOk(b) || op < OpAdd || op > OpDiv {
		return 0, false
	}
	if op == OpDiv && b == 0 {
		return 0, false
	}
	first := number(a)
	// By the order of OpAdd to OpDiv.
	reckon := []func(number) number{first.plus, first.minus, first.times, first.over}
	return int(reckon[op-OpAdd](number(b))), true
}

// RelHolds says whether two numbers stand so.
func RelHolds(rel int, a int, b int) bool {
	switch rel {
	case RelLess:
		return a < b
	case RelMost:
		return a <= b
	case RelSame:
		return a == b
	case RelOther:
		return a != b
	}
	return false
}

// NumText writes a number.
func NumText(n int) string {
	if !NumOk(n) {
		return ""
	}
	return strconv.Itoa(n)
}

// NumRead reads a number.
func NumRead(s string) (int, bool) {
	n, err := strconv.Atoi(s)
	// Atoi also takes a plus sign, noughts ahead and "-0": only the one text that NumText writes counts.
	if err != nil || NumText(n) != s {
		return 0, false
	}
	return n, true
}
