package impl

import (
	"cmp"
	"strconv"
	"strings"
)

const (
	LimbBase = 10000
	MaxLimbs = 40
)

const limbDigits = 4

// No limb at all is the natural 0; limbs that are 0 may stand anywhere but last.
func NatOK(a []int) bool {
	if len(a) > MaxLimbs || len(a) > 0 && a[len(a)-1] == 0 {
		return false
	}
	for _, limb := range a {
		if limb < 0 || limb >= LimbBase {
			return false
		}
	}
	return true
}

func CmpNat(a, b []int) (int, int) {
	if code := natCode(a, b); code != OK {
		return 0, code
	}
	return compareLimbs(a, b), OK
}

func AddNat(a, b []int) ([]int, int) {
	if code := natCode(a, b); code != OK {
		return nil, code
	}
	var cells [MaxLimbs + 1]int
	return fitting(addInto(cells[:], a, b))
}

func SubNat(a, b []int) ([]int, int) {
	if code := natCode(a, b); code != OK {
		return nil, code
	}
	if compareLimbs(a, b) < 0 {
		return nil, ErrBelow
	}
	var cells [MaxLimbs]int
	rest := cells[:copy(cells[:], a)]
	takeTimes(rest, b, 1)
	return fitting(trimmed(rest))
}

func MulNat(a, b []int) ([]int, int) {
	if code := natCode(a, b); code != OK {
		return nil, code
	}
	var cells [2 * MaxLimbs]int
	return fitting(mulInto(cells[:], a, b))
}

func DivNat(a, b []int) ([]int, []int, int) {
	if code := natCode(a, b); code != OK {
		return nil, nil, code
	}
	if len(b) == 0 {
		return nil, nil, ErrZero
	}
	var quotient, cells [MaxLimbs]int
	rest := cells[:copy(cells[:], a)]
	divideRest(quotient[:], rest, b)
	return fresh(trimmed(quotient[:])), fresh(trimmed(rest)), OK
}

func GcdNat(a, b []int) ([]int, int) {
	if code := natCode(a, b); code != OK {
		return nil, code
	}
	return commonLimbs(a, b), OK
}

func RootNat(a []int) ([]int, int) {
	if code := natCode(a); code != OK {
		return nil, code
	}
	if len(a) == 0 {
		return nil, OK
	}
	var rootCells, quotient, restCells, sumCells [MaxLimbs + 2]int
	half := (len(a) + 1) / 2
	rootCells[half] = 1
	root := rootCells[:half+1]
	// Newton's rule comes down from above; what no longer falls is the root.
	for {
		rest := restCells[:copy(restCells[:], a)]
		divideRest(quotient[:], rest, root)
		next := halved(addInto(sumCells[:], root, trimmed(quotient[:])))
		if compareLimbs(next, root) >= 0 {
			return fresh(root), OK
		}
		root = root[:copy(root, next)]
	}
}

func NatText(a []int) (string, int) {
	if code := natCode(a); code != OK {
		return "", code
	}
	return limbsText(a), OK
}

func ReadNat(t string) ([]int, int) {
	if len(t) > MaxText {
		return nil, ErrLong
	}
	if t == "" || len(t) > limbDigits*MaxLimbs || t[0] == '0' && len(t) > 1 {
		return nil, ErrForm
	}
	var cells [MaxLimbs]int
	place := 0
	for end := len(t); end > 0; end -= limbDigits {
		for i := max(end-limbDigits, 0); i < end; i++ {
			if !isDigit(t[i]) {
				return nil, ErrForm
			}
			cells[place] = cells[place]*10 + int(t[i]-'0')
		}
		place++
	}
	return fresh(trimmed(cells[:place])), OK
}

// natCode looks through all the lists for ErrLong ahead of ErrBad.
func natCode(lists ...[]int) int {
	if anyLong(lists...) {
		return ErrLong
	}
	for _, a := range lists {
		if !NatOK(a) {
			return ErrBad
		}
	}
	return OK
}

func trimmed(a []int) []int {
	for len(a) > 0 && a[len(a)-1] == 0 {
		a = a[:len(a)-1]
	}
	return a
}

// fresh keeps an answer apart from the cells in which it was worked out.
func fresh(a []int) []int {
	return append([]int(nil), a...)
}

func fitting(a []int) ([]int, int) {
	if len(a) > MaxLimbs {
		return nil, ErrFull
	}
	return fresh(a), OK
}

// The functions below take limbs of any number, without a 0 at the end where
// nothing else is said, so that what is too long for a natural can be worked out.

func compareLimbs(a, b []int) int {
	if len(a) != len(b) {
		return cmp.Compare(len(a), len(b))
	}
	for place := len(a) - 1; place >= 0; place-- {
		if a[place] != b[place] {
			return cmp.Compare(a[place], b[place])
		}
	}
	return 0
}

// addInto needs one cell more than the longer one has limbs.
func addInto(cells, a, b []int) []int {
	if len(a) < len(b) {
		a, b = b, a
	}
	carry := 0
	for place, limb := range a {
		sum := limb + carry
		if place < len(b) {
			sum += b[place]
		}
		cells[place], carry = sum%LimbBase, sum/LimbBase
	}
	cells[len(a)] = carry
	return trimmed(cells[:len(a)+1])
}

// mulInto needs as many cells as both have limbs, all of them 0.
func mulInto(cells, a, b []int) []int {
	for i, x := range a {
		carry := 0
		for j, y := range b {
			sum := cells[i+j] + x*y + carry
			cells[i+j], carry = sum%LimbBase, sum/LimbBase
		}
		cells[i+len(b)] = carry
	}
	return trimmed(cells[:len(a)+len(b)])
}

// takeTimes takes b off rest so often; the caller knows that it goes.
func takeTimes(rest, b []int, times int) {
	borrow := 0
	for place := range rest {
		if place >= len(b) && borrow == 0 {
			return
		}
		take := borrow
		if place < len(b) {
			take += b[place] * times
		}
		left := rest[place] - take%LimbBase
		borrow = take / LimbBase
		if left < 0 {
			left += LimbBase
			borrow++
		}
		rest[place] = left
	}
}

// divideRest leaves in rest what is over when b, which is not 0, is taken off
// as often as it goes; quotient has at least as many cells as rest.
func divideRest(quotient, rest, b []int) {
	clear(quotient)
places:
	for place := len(rest) - len(b); place >= 0; place-- {
		window := rest[place:min(place+len(b)+1, len(rest))]
		times := guessTimes(window, b)
		takeTimes(window, b, times)
		for {
			if compareLimbs(trimmed(window), b) < 0 {
				quotient[place] = times
				continue places
			}
			takeTimes(window, b, 1)
			times++
		}
	}
}

// guessTimes is never above how often b goes into the window, and hardly below:
// it looks at the three highest limbs of b, so that nothing exceeds 64 bits.
func guessTimes(window, b []int) int {
	low := max(len(b)-3, 0)
	divisor := highValue(b, low)
	if low > 0 {
		divisor++
	}
	return highValue(window, low) / divisor
}

func highValue(a []int, low int) int {
	value := 0
	for place := len(a) - 1; place >= low; place-- {
		value = value*LimbBase + a[place]
	}
	return value
}

// halved works in place.
func halved(a []int) []int {
	carry := 0
	for place := len(a) - 1; place >= 0; place-- {
		value := carry*LimbBase + a[place]
		a[place], carry = value/2, value%2
	}
	return trimmed(a)
}

func limbsText(a []int) string {
	if len(a) == 0 {
		return "0"
	}
	last := len(a) - 1
	var text strings.Builder
	text.WriteString(strconv.Itoa(a[last]))
	for place := last - 1; place >= 0; place-- {
		// The base ahead of a limb makes its noughts show.
		text.WriteString(strconv.Itoa(LimbBase + a[place])[1:])
	}
	return text.String()
}

// The functions below find cells of their own.

func sumLimbs(a, b []int) []int {
	return addInto(make([]int, max(len(a), len(b))+1), a, b)
}

// lessLimbs is a less b, which is not above it.
func lessLimbs(a, b []int) []int {
	rest := fresh(a)
	takeTimes(rest, b, 1)
	return trimmed(rest)
}

func productLimbs(a, b []int) []int {
	return mulInto(make([]int, len(a)+len(b)), a, b)
}

// dividedLimbs is the quotient and the rest of a over b, which is not 0.
func dividedLimbs(a, b []int) ([]int, []int) {
	quotient, rest := make([]int, len(a)), fresh(a)
	divideRest(quotient, rest, b)
	return trimmed(quotient), trimmed(rest)
}

func quotientLimbs(a, b []int) []int {
	quotient, _ := dividedLimbs(a, b)
	return quotient
}

func commonLimbs(a, b []int) []int {
	quotient := make([]int, max(len(a), len(b)))
	x, y := fresh(a), fresh(b)
	for len(y) > 0 {
		divideRest(quotient[:len(x)], x, y)
		x, y = y, trimmed(x)
	}
	return x
}
