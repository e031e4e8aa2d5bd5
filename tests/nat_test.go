package tests

import (
	"fmt"
	"math/big"
	"math/rand"
	"slices"
	"strings"
	"testing"

	"loop.example/g00615/impl"
)

// bigOf reads limbs without the program, so that it can be held against math/big.
func bigOf(a []int) *big.Int {
	n := new(big.Int)
	for i := len(a) - 1; i >= 0; i-- {
		n.Mul(n, big.NewInt(impl.LimbBase))
		n.Add(n, big.NewInt(int64(a[i])))
	}
	return n
}

func limbsOf(n *big.Int) []int {
	var a []int
	rest := new(big.Int)
	for n = new(big.Int).Set(n); n.Sign() > 0; {
		n.QuoRem(n, big.NewInt(impl.LimbBase), rest)
		a = append(a, int(rest.Int64()))
	}
	return a
}

func repeated(limb, count int) []int {
	a := make([]int, count)
	for i := range a {
		a[i] = limb
	}
	return a
}

func power(place, limb int) []int {
	return append(make([]int, place), limb)
}

// sampleNats has naturals with 0 limbs, full limbs, one limb, all limbs, and noise.
func sampleNats() [][]int {
	list := [][]int{
		nil, {}, {1}, {2}, {3}, {9999}, {0, 1}, {1, 1}, {9999, 9999}, {0, 0, 1}, {7, 0, 1}, {0, 7, 0, 9},
		{9999, 0, 9999}, {0, 9999, 9998}, {1, 9999, 9998}, {0, 0, 0, 1}, {9999, 9999, 0, 1}, {0, 0, 5000},
		power(19, 1), power(20, 1), power(38, 1), power(39, 1), power(39, 9999), power(39, 4999),
		repeated(9999, 4), repeated(9999, 19), repeated(9999, 20), repeated(9999, 39), repeated(9999, 40),
		repeated(5000, 40), repeated(1, 40), append(repeated(0, 20), repeated(9999, 20)...),
	}
	noise := rand.New(rand.NewSource(1))
	for range 60 {
		list = append(list, noisyNat(noise))
	}
	return list
}

func noisyNat(noise *rand.Rand) []int {
	a := make([]int, 1+noise.Intn(impl.MaxLimbs))
	for i := range a {
		switch noise.Intn(4) {
		case 0:
			a[i] = 0
		case 1:
			a[i] = impl.LimbBase - 1
		default:
			a[i] = noise.Intn(impl.LimbBase)
		}
	}
	if a[len(a)-1] == 0 {
		a[len(a)-1] = 1 + noise.Intn(impl.LimbBase-1)
	}
	return a
}

func brief(a []int) string {
	if len(a) > 12 {
		return fmt.Sprintf("%v..(%d limbs)", a[:12], len(a))
	}
	return fmt.Sprint(a)
}

// checkNat wants the natural n, or ErrFull where it has too many limbs.
func checkNat(t *testing.T, call string, got []int, code int, n *big.Int) {
	t.Helper()
	want, wantCode := limbsOf(n), impl.OK
	if len(want) > impl.MaxLimbs {
		want, wantCode = nil, impl.ErrFull
	}
	if !slices.Equal(got, want) || code != wantCode || !impl.NatOK(got) {
		t.Fatalf("%s = %v, %d; want %v, %d", call, got, code, want, wantCode)
	}
}

func TestNatOK(t *testing.T) {
	for _, a := range sampleNats() {
		if !impl.NatOK(a) {
			t.Errorf("NatOK(%s) = false", brief(a))
		}
	}
	for _, a := range badNats() {
		if impl.NatOK(a) {
			t.Errorf("NatOK(%s) = true", brief(a))
		}
	}
	for _, a := range longNats() {
		if impl.NatOK(a) {
			t.Errorf("NatOK of %d limbs = true", len(a))
		}
	}
}

func TestNatsInPairs(t *testing.T) {
	list := sampleNats()
	for _, a := range list {
		for _, b := range list {
			checkPair(t, a, b)
		}
	}
}

func checkPair(t *testing.T, a, b []int) {
	t.Helper()
	x, y := bigOf(a), bigOf(b)
	pair := "(" + brief(a) + ", " + brief(b) + ")"
	if k, code := impl.CmpNat(a, b); k != x.Cmp(y) || code != impl.OK {
		t.Fatalf("CmpNat%s = %d, %d", pair, k, code)
	}
	sum, code := impl.AddNat(a, b)
	checkNat(t, "AddNat"+pair, sum, code, new(big.Int).Add(x, y))
	product, code := impl.MulNat(a, b)
	checkNat(t, "MulNat"+pair, product, code, new(big.Int).Mul(x, y))
	common, code := impl.GcdNat(a, b)
	checkNat(t, "GcdNat"+pair, common, code, new(big.Int).GCD(nil, nil, x, y))
	left, code := impl.SubNat(a, b)
	if x.Cmp(y) >= 0 {
		checkNat(t, "SubNat"+pair, left, code, new(big.Int).Sub(x, y))
	} else if len(left) != 0 || code != impl.ErrBelow {
		t.Fatalf("SubNat%s = %v, %d; want ErrBelow", pair, left, code)
	}
	quotient, rest, code := impl.DivNat(a, b)
	if y.Sign() > 0 {
		q, r := new(big.Int).QuoRem(x, y, new(big.Int))
		checkNat(t, "quotient DivNat"+pair, quotient, code, q)
		checkNat(t, "rest DivNat"+pair, rest, code, r)
	} else if len(quotient) != 0 || len(rest) != 0 || code != impl.ErrZero {
		t.Fatalf("DivNat%s = %v, %v, %d; want ErrZero", pair, quotient, rest, code)
	}
}

// A product and one less or more is where a guessed limb of the quotient goes wrong.
func TestDivNatAroundProducts(t *testing.T) {
	noise := rand.New(rand.NewSource(2))
	for range 3000 {
		b, q := noisyNat(noise), noisyNat(noise)
		product := new(big.Int).Mul(bigOf(b), bigOf(q))
		for _, step := range []int64{-1, 0, 1} {
			a := limbsOf(new(big.Int).Add(product, big.NewInt(step)))
			if len(a) <= impl.MaxLimbs {
				checkPair(t, a, b)
			}
		}
	}
}

func TestGcdNatOfMultiples(t *testing.T) {
	fibonacci := [2]*big.Int{big.NewInt(1), big.NewInt(1)}
	for len(limbsOf(new(big.Int).Add(fibonacci[0], fibonacci[1]))) <= impl.MaxLimbs {
		fibonacci[0], fibonacci[1] = fibonacci[1], new(big.Int).Add(fibonacci[0], fibonacci[1])
	}
	checkPair(t, limbsOf(fibonacci[0]), limbsOf(fibonacci[1]))
	noise := rand.New(rand.NewSource(3))
	for range 300 {
		common, first, second := noisyNat(noise), noisyNat(noise), noisyNat(noise)
		a := limbsOf(new(big.Int).Mul(bigOf(common), bigOf(first)))
		b := limbsOf(new(big.Int).Mul(bigOf(common), bigOf(second)))
		if len(a) <= impl.MaxLimbs && len(b) <= impl.MaxLimbs {
			checkPair(t, a, b)
		}
	}
}

func TestFullAtTheLimit(t *testing.T) {
	top := repeated(9999, impl.MaxLimbs)
	checkPair(t, top, nil)
	checkPair(t, top, []int{1})
	checkPair(t, []int{1}, top)
	checkPair(t, append([]int{9998}, top[1:]...), []int{1})
	checkPair(t, power(20, 1), power(19, 9999))
	checkPair(t, power(20, 1), power(20, 1))
	checkPair(t, repeated(9999, 20), repeated(9999, 20))
	checkPair(t, repeated(9999, 20), repeated(9999, 21))
}

func TestRootNat(t *testing.T) {
	list := sampleNats()
	for n := range 12000 {
		list = append(list, limbsOf(big.NewInt(int64(n))))
	}
	noise := rand.New(rand.NewSource(4))
	for range 500 {
		limbs := noisyNat(noise)
		root := bigOf(limbs[len(limbs)/2:])
		square := new(big.Int).Mul(root, root)
		for _, step := range []int64{-1, 0, 1} {
			if near := new(big.Int).Add(square, big.NewInt(step)); near.Sign() >= 0 {
				list = append(list, limbsOf(near))
			}
		}
	}
	for _, a := range list {
		root, code := impl.RootNat(a)
		checkNat(t, "RootNat("+brief(a)+")", root, code, new(big.Int).Sqrt(bigOf(a)))
	}
}

func TestNatTextAndBack(t *testing.T) {
	for _, a := range sampleNats() {
		text, code := impl.NatText(a)
		if text != bigOf(a).String() || code != impl.OK {
			t.Errorf("NatText(%s) = %q, %d", brief(a), text, code)
		}
		back, code := impl.ReadNat(text)
		checkNat(t, "ReadNat("+text+")", back, code, bigOf(a))
	}
	for n := range 20010 {
		text := fmt.Sprint(n)
		a, code := impl.ReadNat(text)
		checkNat(t, "ReadNat("+text+")", a, code, big.NewInt(int64(n)))
		if back, code := impl.NatText(a); back != text || code != impl.OK {
			t.Fatalf("NatText(%v) = %q, %d", a, back, code)
		}
	}
	for digits := 1; digits <= 4*impl.MaxLimbs; digits++ {
		text := "1" + strings.Repeat("0", digits-1)
		n, _ := new(big.Int).SetString(text, 10)
		a, code := impl.ReadNat(text)
		checkNat(t, "ReadNat("+text+")", a, code, n)
	}
}

func TestReadNatOfOtherTexts(t *testing.T) {
	most := strings.Repeat("9", 4*impl.MaxLimbs)
	if a, code := impl.ReadNat(most); !slices.Equal(a, repeated(9999, impl.MaxLimbs)) || code != impl.OK {
		t.Errorf("ReadNat of %d digits = %v, %d", len(most), a, code)
	}
	forms := []string{
		"", "00", "01", "000", "0000", "00001", "-1", "-0", "+1", " 1", "1 ", "1\n", "1_0", "0x1", "1e3", "1.5",
		"a", "12a4", "1234a", "a1234", "1234567/", "1234567:", "/2345678", ":2345678", "\x00", "\xff", "١",
		most + "9", "1" + strings.Repeat("0", 4*impl.MaxLimbs), "0" + most, most[1:] + "x",
		strings.Repeat("9", impl.MaxText), strings.Repeat("x", impl.MaxText),
	}
	for _, text := range forms {
		if a, code := impl.ReadNat(text); len(a) != 0 || code != impl.ErrForm {
			t.Errorf("ReadNat of %.20q (%d bytes) = %v, %d; want ErrForm", text, len(text), a, code)
		}
	}
	for _, text := range []string{strings.Repeat("9", impl.MaxText+1), strings.Repeat("0", impl.MaxText+1), strings.Repeat("x", 2*impl.MaxText)} {
		if a, code := impl.ReadNat(text); len(a) != 0 || code != impl.ErrLong {
			t.Errorf("ReadNat of %d bytes = %v, %d; want ErrLong", len(text), a, code)
		}
	}
}
