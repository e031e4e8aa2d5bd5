package tests

import (
	"fmt"
	"math"
	"math/big"
	"math/rand"
	"slices"
	"strings"
	"testing"

	"loop.example/g00615/impl"
)

// bigRatOf reads parts without the program, so that it can be held against math/big.
func bigRatOf(r impl.Rat) *big.Rat {
	q := new(big.Rat).SetFrac(bigOf(r.Num), bigOf(r.Den))
	if r.Neg {
		q.Neg(q)
	}
	return q
}

// ratOfBig may have too many limbs.
func ratOfBig(q *big.Rat) impl.Rat {
	return impl.Rat{Neg: q.Sign() < 0, Num: limbsOf(new(big.Int).Abs(q.Num())), Den: limbsOf(q.Denom())}
}

func ratOfInts(num, den int64) impl.Rat {
	return ratOfBig(big.NewRat(num, den))
}

func ratOfLimbs(num, den []int) impl.Rat {
	return ratOfBig(new(big.Rat).SetFrac(bigOf(num), bigOf(den)))
}

func tooLong(r impl.Rat) bool {
	return len(r.Num) > impl.MaxLimbs || len(r.Den) > impl.MaxLimbs
}

func sameRat(a, b impl.Rat) bool {
	return a.Neg == b.Neg && slices.Equal(a.Num, b.Num) && slices.Equal(a.Den, b.Den)
}

func briefRat(r impl.Rat) string {
	return fmt.Sprintf("{%v %s/%s}", r.Neg, brief(r.Num), brief(r.Den))
}

// bothSigns has each rational and the one on the other side of 0.
func bothSigns(list []impl.Rat) []impl.Rat {
	var all []impl.Rat
	for _, r := range list {
		all = append(all, r)
		if len(r.Num) > 0 {
			all = append(all, impl.Rat{Neg: !r.Neg, Num: r.Num, Den: r.Den})
		}
	}
	return all
}

// sampleRats has 0, whole ones, small ones, parts of all lengths up to the most, and noise.
func sampleRats() []impl.Rat {
	top := repeated(9999, impl.MaxLimbs)
	list := []impl.Rat{
		{Den: []int{1}}, {Num: []int{}, Den: []int{1}},
		ratOfInts(1, 1), ratOfInts(2, 1), ratOfInts(1, 2), ratOfInts(3, 4), ratOfInts(5, 6), ratOfInts(7, 3), ratOfInts(1, 3),
		ratOfInts(9999, 10000), ratOfInts(10001, 10000), ratOfInts(1000000007, 999999937), ratOfInts(10000, 1), ratOfInts(1, 10000),
		ratOfLimbs(top, []int{1}), ratOfLimbs([]int{1}, top), ratOfLimbs(top, []int{2}), ratOfLimbs([]int{2}, top),
		ratOfLimbs(power(39, 1), []int{1}), ratOfLimbs([]int{1}, power(39, 1)), ratOfLimbs(top, power(39, 1)), ratOfLimbs(power(39, 1), top),
		ratOfLimbs(append([]int{9998}, top[1:]...), []int{1}), ratOfLimbs(append([]int{9998}, top[1:]...), top),
		ratOfLimbs(power(20, 1), []int{1}), ratOfLimbs(repeated(9999, 20), []int{7}), ratOfLimbs([]int{7}, repeated(9999, 20)),
		ratOfLimbs([]int{1}, power(20, 1)), ratOfLimbs(power(19, 1), []int{3}), ratOfLimbs([]int{3}, power(20, 1)),
	}
	noise := rand.New(rand.NewSource(5))
	for range 25 {
		list = append(list, ratOfLimbs(noisyNat(noise), noisyNat(noise)), noisyRat(noise))
	}
	return bothSigns(list)
}

// noisyRat is small enough for a few sums and products.
func noisyRat(noise *rand.Rand) impl.Rat {
	num, den := noisyNat(noise), noisyNat(noise)
	r := ratOfLimbs(num[len(num)-1-len(num)/8:], den[len(den)-1-len(den)/8:])
	r.Neg = noise.Intn(2) == 0
	return r
}

// checkRat wants the rational q, or ErrFull where a part has too many limbs.
func checkRat(t *testing.T, call string, got impl.Rat, code int, q *big.Rat) {
	t.Helper()
	want, wantCode := ratOfBig(q), impl.OK
	if tooLong(want) {
		want, wantCode = impl.Rat{}, impl.ErrFull
	}
	if !sameRat(got, want) || code != wantCode {
		t.Fatalf("%s = %v, %d; want %v, %d", call, got, code, want, wantCode)
	}
	if code == impl.OK && !impl.RatOK(got) {
		t.Fatalf("%s = %v, which is not right", call, got)
	}
}

func checkRatPair(t *testing.T, a, b impl.Rat) {
	t.Helper()
	x, y := bigRatOf(a), bigRatOf(b)
	pair := "(" + briefRat(a) + ", " + briefRat(b) + ")"
	got, code := impl.AddRat(a, b)
	checkRat(t, "AddRat"+pair, got, code, new(big.Rat).Add(x, y))
	got, code = impl.SubRat(a, b)
	checkRat(t, "SubRat"+pair, got, code, new(big.Rat).Sub(x, y))
	got, code = impl.MulRat(a, b)
	checkRat(t, "MulRat"+pair, got, code, new(big.Rat).Mul(x, y))
	got, code = impl.DivRat(a, b)
	if y.Sign() != 0 {
		checkRat(t, "DivRat"+pair, got, code, new(big.Rat).Quo(x, y))
	} else if !sameRat(got, impl.Rat{}) || code != impl.ErrZero {
		t.Fatalf("DivRat%s = %v, %d; want ErrZero", pair, got, code)
	}
	if sign, code := impl.CmpRat(a, b); sign != x.Cmp(y) || code != impl.OK {
		t.Fatalf("CmpRat%s = %d, %d; want %d", pair, sign, code, x.Cmp(y))
	}
}

func TestRatOK(t *testing.T) {
	for _, r := range sampleRats() {
		if !impl.RatOK(r) {
			t.Errorf("RatOK(%s) = false", briefRat(r))
		}
	}
	for _, r := range badRats() {
		if impl.RatOK(r) {
			t.Errorf("RatOK(%s) = true", briefRat(r))
		}
	}
	for num := range 60 {
		for den := range 60 {
			r := impl.Rat{Num: limbsOf(big.NewInt(int64(num))), Den: limbsOf(big.NewInt(int64(den)))}
			lowest := new(big.Int).GCD(nil, nil, big.NewInt(int64(num)), big.NewInt(int64(den))).Int64() == 1
			if got := impl.RatOK(r); got != (lowest && den > 0) {
				t.Errorf("RatOK of %d over %d = %v", num, den, got)
			}
			r.Neg = true
			if got := impl.RatOK(r); got != (lowest && den > 0 && num > 0) {
				t.Errorf("RatOK of -%d over %d = %v", num, den, got)
			}
		}
	}
}

func TestRatsInPairs(t *testing.T) {
	list := sampleRats()
	for _, a := range list {
		for _, b := range list {
			checkRatPair(t, a, b)
		}
	}
}

func TestSmallRatsInPairs(t *testing.T) {
	var list []impl.Rat
	for num := int64(-7); num <= 7; num++ {
		for den := int64(1); den <= 6; den++ {
			list = append(list, ratOfInts(num, den))
		}
	}
	for _, a := range list {
		for _, b := range list {
			checkRatPair(t, a, b)
		}
	}
}

// What is too long on the way may cancel: only the answer in lowest terms is too long or not.
func TestLongRatsThatCancel(t *testing.T) {
	noise := rand.New(rand.NewSource(6))
	one := big.NewRat(1, 1)
	for range 200 {
		r := ratOfLimbs(noisyNat(noise), noisyNat(noise))
		rest := ratOfBig(new(big.Rat).Sub(one, bigRatOf(r)))
		turned := ratOfBig(new(big.Rat).Inv(bigRatOf(r)))
		checkRatPair(t, r, r)
		checkRatPair(t, r, turned)
		if !tooLong(rest) {
			checkRatPair(t, r, rest)
			checkRatPair(t, rest, r)
		}
	}
	for range 200 {
		den := noisyNat(noise)
		a, b := ratOfLimbs(noisyNat(noise), den), ratOfLimbs(noisyNat(noise), den)
		checkRatPair(t, a, b)
		checkRatPair(t, impl.Rat{Neg: true, Num: a.Num, Den: a.Den}, b)
	}
}

// A sum or a product is one limb too long, or just not.
func TestRatsAtTheLimit(t *testing.T) {
	top := ratOfLimbs(repeated(9999, impl.MaxLimbs), []int{1})
	tiny := ratOfLimbs([]int{1}, repeated(9999, impl.MaxLimbs))
	below := ratOfLimbs(append([]int{9998}, repeated(9999, impl.MaxLimbs-1)...), []int{1})
	list := []impl.Rat{
		top, tiny, below, ratOfInts(1, 1), ratOfInts(1, 2), ratOfInts(2, 1), ratOfInts(0, 1),
		ratOfLimbs(power(20, 1), []int{1}), ratOfLimbs(power(19, 9999), []int{1}), ratOfLimbs([]int{1}, power(20, 1)), ratOfLimbs([]int{1}, power(19, 9999)),
		ratOfLimbs([]int{1}, append([]int{1}, repeated(9999, 19)...)), ratOfLimbs([]int{1}, append([]int{1}, repeated(9999, 20)...)),
		ratOfLimbs(repeated(9999, 20), []int{1}), ratOfLimbs(repeated(9999, 21), []int{1}),
	}
	for _, a := range bothSigns(list) {
		for _, b := range bothSigns(list) {
			checkRatPair(t, a, b)
		}
	}
	if r, code := impl.AddRat(top, ratOfInts(1, 1)); code != impl.ErrFull || !sameRat(r, impl.Rat{}) {
		t.Errorf("the greatest and 1 = %v, %d; want ErrFull", r, code)
	}
	if r, code := impl.AddRat(below, ratOfInts(1, 1)); code != impl.OK || !sameRat(r, top) {
		t.Errorf("one below the greatest and 1 = %v, %d", r, code)
	}
	if r, code := impl.DivRat(tiny, ratOfInts(2, 1)); code != impl.ErrFull || !sameRat(r, impl.Rat{}) {
		t.Errorf("the least half = %v, %d; want ErrFull", r, code)
	}
	if r, code := impl.DivRat(ratOfInts(1, 1), tiny); code != impl.OK || !sameRat(r, top) {
		t.Errorf("1 over the least = %v, %d", r, code)
	}
}

func TestMakeRat(t *testing.T) {
	const most = 1000000000
	list := []int{0, 1, -1, 2, -2, 3, 4, -6, 10, 9999, 10000, -10001, 123456789, 500000000, most - 1, 1 - most, most, -most}
	for _, num := range list {
		for _, den := range list {
			r, code := impl.MakeRat(num, den)
			if den != 0 {
				checkRat(t, fmt.Sprintf("MakeRat(%d, %d)", num, den), r, code, big.NewRat(int64(num), int64(den)))
			} else if code != impl.ErrZero || !sameRat(r, impl.Rat{}) {
				t.Errorf("MakeRat(%d, 0) = %v, %d; want ErrZero", num, r, code)
			}
		}
	}
	for _, out := range []int{most + 1, -most - 1, 2 * most, math.MaxInt, math.MinInt, math.MaxInt32, 1 << 32, -1 << 40} {
		for _, other := range []int{0, 1, -1, most, out, math.MaxInt, math.MinInt} {
			for _, pair := range [][2]int{{out, other}, {other, out}} {
				if r, code := impl.MakeRat(pair[0], pair[1]); code != impl.ErrRange || !sameRat(r, impl.Rat{}) {
					t.Errorf("MakeRat(%d, %d) = %v, %d; want ErrRange", pair[0], pair[1], r, code)
				}
			}
		}
	}
}

func TestNegAndAbsRat(t *testing.T) {
	for _, r := range sampleRats() {
		got, code := impl.NegRat(r)
		checkRat(t, "NegRat("+briefRat(r)+")", got, code, new(big.Rat).Neg(bigRatOf(r)))
		got, code = impl.AbsRat(r)
		checkRat(t, "AbsRat("+briefRat(r)+")", got, code, new(big.Rat).Abs(bigRatOf(r)))
	}
}

func TestPowRat(t *testing.T) {
	list := append(sampleRats(), bothSigns([]impl.Rat{
		ratOfLimbs(power(4, 9999), []int{1}), ratOfLimbs(power(5, 1), []int{1}), ratOfLimbs([]int{1}, power(4, 9999)), ratOfLimbs([]int{1}, power(5, 1)),
		ratOfLimbs(power(13, 21), []int{2}), ratOfLimbs(power(13, 22), []int{3}), ratOfLimbs(repeated(9999, 5), power(5, 1)),
	})...)
	for _, r := range list {
		want := big.NewRat(1, 1)
		for n := range 9 {
			got, code := impl.PowRat(r, n)
			checkRat(t, fmt.Sprintf("PowRat(%s, %d)", briefRat(r), n), got, code, want)
			want = new(big.Rat).Mul(want, bigRatOf(r))
		}
		for _, n := range []int{-1, 9, 10, -8, 256, math.MaxInt, math.MinInt} {
			if got, code := impl.PowRat(r, n); code != impl.ErrRange || !sameRat(got, impl.Rat{}) {
				t.Errorf("PowRat(%s, %d) = %v, %d; want ErrRange", briefRat(r), n, got, code)
			}
		}
	}
}

func TestFloorRat(t *testing.T) {
	list := sampleRats()
	for num := int64(-40); num <= 40; num++ {
		for den := int64(1); den <= 9; den++ {
			list = append(list, ratOfInts(num, den))
		}
	}
	for _, r := range list {
		q := bigRatOf(r)
		// Euclid's division rounds down where what divides is above 0.
		down := new(big.Int).Div(q.Num(), q.Denom())
		got, code := impl.FloorRat(r)
		checkRat(t, "FloorRat("+briefRat(r)+")", got, code, new(big.Rat).SetInt(down))
	}
}

func TestRatTextAndBack(t *testing.T) {
	for _, r := range sampleRats() {
		text, code := impl.RatText(r)
		if text != bigRatOf(r).RatString() || code != impl.OK {
			t.Errorf("RatText(%s) = %q, %d", briefRat(r), text, code)
		}
		back, code := impl.ReadRat(text)
		checkRat(t, "ReadRat("+text+")", back, code, bigRatOf(r))
	}
	for num := int64(-70); num <= 70; num++ {
		for den := int64(-30); den <= 30; den++ {
			text := fmt.Sprintf("%d/%d", num, den)
			r, code := impl.ReadRat(text)
			q := new(big.Rat)
			if den > 0 {
				q.SetFrac64(num, den)
			}
			if den > 1 && q.String() == text {
				checkRat(t, "ReadRat("+text+")", r, code, q)
			} else if code != impl.ErrForm || !sameRat(r, impl.Rat{}) {
				t.Errorf("ReadRat(%q) = %v, %d; want ErrForm", text, r, code)
			}
		}
		text := fmt.Sprint(num)
		r, code := impl.ReadRat(text)
		checkRat(t, "ReadRat("+text+")", r, code, big.NewRat(num, 1))
	}
}

func TestReadRatOfOtherTexts(t *testing.T) {
	most := strings.Repeat("9", 4*impl.MaxLimbs)
	odd := "1" + strings.Repeat("0", 4*impl.MaxLimbs-1)
	for _, text := range []string{most, "-" + most, "1/" + most, "-" + most + "/" + odd, odd + "/" + most} {
		r, code := impl.ReadRat(text)
		if back, backCode := impl.RatText(r); code != impl.OK || backCode != impl.OK || back != text {
			t.Errorf("ReadRat of %d bytes = %v, %d", len(text), r, code)
		}
	}
	forms := []string{
		"", "-", "/", "-/", "--1", "-0", "-0/1", "0/1", "0/2", "0/0", "1/0", "-1/0", "1/1", "-1/1", "3/1", "2/4", "-6/4", "10/10000",
		"1/", "/2", "-/2", "1/-2", "-1/-2", "1/+2", "+1", "+1/2", "1//2", "1/2/3", "1/2/", "/1/2", "01", "00", "01/2", "1/02", "-01", "-01/2",
		" 1", "1 ", "1 /2", "1/ 2", "- 1", "1\n", "\n1", "1/2\n", "1\x002", "1.5", "1e3", "0x1", "1_0", "x", "1/x", "x/2", "é", "\xff", "1\xff/2", "−1", "1⁄2", "١",
		"1-", "1/2-", "1-2", most + "9", "-" + most + "9", "1/" + most + "9", "1/" + odd + "0", odd + "0/3", "0" + most, "1/0" + most,
		strings.Repeat("9", impl.MaxText), strings.Repeat("-", impl.MaxText), strings.Repeat("1/", impl.MaxText/2),
	}
	for _, text := range forms {
		if r, code := impl.ReadRat(text); code != impl.ErrForm || !sameRat(r, impl.Rat{}) {
			t.Errorf("ReadRat of %.20q (%d bytes) = %v, %d; want ErrForm", text, len(text), r, code)
		}
	}
	for _, text := range []string{strings.Repeat("9", impl.MaxText+1), strings.Repeat("-", impl.MaxText+1), "1/" + strings.Repeat("2", impl.MaxText), strings.Repeat("x", 2*impl.MaxText)} {
		if r, code := impl.ReadRat(text); code != impl.ErrLong || !sameRat(r, impl.Rat{}) {
			t.Errorf("ReadRat of %d bytes = %v, %d; want ErrLong", len(text), r, code)
		}
	}
}

// must is an answer whose code is OK.
func must(t *testing.T) func(r impl.Rat, code int) impl.Rat {
	return func(r impl.Rat, code int) impl.Rat {
		t.Helper()
		if code != impl.OK {
			t.Fatalf("a code %d where none is due", code)
		}
		return r
	}
}

func TestRatsAreAFieldWithAnOrder(t *testing.T) {
	noise := rand.New(rand.NewSource(7))
	ok := must(t)
	nought, one := ok(impl.MakeRat(0, 1)), ok(impl.MakeRat(1, 1))
	sign := func(a, b impl.Rat) int {
		k, code := impl.CmpRat(a, b)
		if code != impl.OK {
			t.Fatalf("CmpRat: code %d", code)
		}
		return k
	}
	for range 400 {
		a, b, c := noisyRat(noise), noisyRat(noise), noisyRat(noise)
		laws := map[string][2]impl.Rat{
			"sums in any order":     {ok(impl.AddRat(a, b)), ok(impl.AddRat(b, a))},
			"sums of sums":          {ok(impl.AddRat(ok(impl.AddRat(a, b)), c)), ok(impl.AddRat(a, ok(impl.AddRat(b, c))))},
			"products in any order": {ok(impl.MulRat(a, b)), ok(impl.MulRat(b, a))},
			"products of products":  {ok(impl.MulRat(ok(impl.MulRat(a, b)), c)), ok(impl.MulRat(a, ok(impl.MulRat(b, c))))},
			"products over sums":    {ok(impl.MulRat(a, ok(impl.AddRat(b, c)))), ok(impl.AddRat(ok(impl.MulRat(a, b)), ok(impl.MulRat(a, c))))},
			"nothing added":         {ok(impl.AddRat(a, nought)), a},
			"once":                  {ok(impl.MulRat(a, one)), a},
			"turned about":          {ok(impl.AddRat(a, ok(impl.NegRat(a)))), nought},
			"over itself":           {ok(impl.DivRat(a, a)), one},
			"less":                  {ok(impl.AddRat(ok(impl.SubRat(a, b)), b)), a},
			"over":                  {ok(impl.MulRat(ok(impl.DivRat(a, b)), b)), a},
		}
		for law, sides := range laws {
			if !sameRat(sides[0], sides[1]) {
				t.Errorf("%s: %v, %v of %v, %v, %v", law, sides[0], sides[1], a, b, c)
			}
		}
		if sign(a, b) != -sign(b, a) || sign(a, a) != 0 || sign(a, b) != sign(ok(impl.SubRat(a, b)), nought) {
			t.Errorf("the order of %v and %v", a, b)
		}
		if sign(a, b) != sign(ok(impl.AddRat(a, c)), ok(impl.AddRat(b, c))) || sign(a, b)*sign(c, nought) != sign(ok(impl.MulRat(a, c)), ok(impl.MulRat(b, c))) {
			t.Errorf("the order of %v and %v with %v", a, b, c)
		}
	}
}
