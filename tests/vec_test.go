package tests

import (
	"fmt"
	"math/big"
	"math/rand"
	"slices"
	"testing"

	"loop.example/g00615/impl"
)

func bigVecOf(x []impl.Rat) []*big.Rat {
	var list []*big.Rat
	for _, r := range x {
		list = append(list, bigRatOf(r))
	}
	return list
}

func bigDot(x, y []impl.Rat) *big.Rat {
	sum := new(big.Rat)
	for i := range x {
		sum.Add(sum, new(big.Rat).Mul(bigRatOf(x[i]), bigRatOf(y[i])))
	}
	return sum
}

func sameVec(x, y []impl.Rat) bool {
	return slices.EqualFunc(x, y, sameRat)
}

func briefVec(x []impl.Rat) string {
	if len(x) > 6 {
		return fmt.Sprintf("[%d rationals]", len(x))
	}
	text := "["
	for _, r := range x {
		text += briefRat(r)
	}
	return text + "]"
}

func vecOfInts(list ...int64) []impl.Rat {
	var x []impl.Rat
	for _, n := range list {
		x = append(x, ratOfInts(n, 1))
	}
	return x
}

func ratsAlike(r impl.Rat, count int) []impl.Rat {
	return slices.Repeat([]impl.Rat{r}, count)
}

func noisyVec(noise *rand.Rand, count int) []impl.Rat {
	var x []impl.Rat
	for range count {
		x = append(x, noisyRat(noise))
	}
	return x
}

// sampleVecs has vectors of one length: small ones, ones with parts of all lengths up to the most, and noise.
func sampleVecs(count int) [][]impl.Rat {
	noise := rand.New(rand.NewSource(int64(count)))
	list := [][]impl.Rat{ratsAlike(ratOfInts(0, 1), count), ratsAlike(ratOfInts(1, 1), count), ratsAlike(ratOfInts(-2, 3), count)}
	all := sampleRats()
	for range 14 {
		var x []impl.Rat
		for range count {
			x = append(x, all[noise.Intn(len(all))])
		}
		list = append(list, x, noisyVec(noise, count))
	}
	return list
}

// checkVec wants the rationals of want, or ErrFull where a part of any of them has too many limbs.
func checkVec(t *testing.T, call string, got []impl.Rat, code int, want []*big.Rat) {
	t.Helper()
	var list []impl.Rat
	wantCode := impl.OK
	for _, q := range want {
		list = append(list, ratOfBig(q))
	}
	if slices.ContainsFunc(list, tooLong) {
		list, wantCode = nil, impl.ErrFull
	}
	if !sameVec(got, list) || code != wantCode {
		t.Fatalf("%s = %v, %d; want %v, %d", call, got, code, list, wantCode)
	}
	if code == impl.OK && !impl.VecOK(got) {
		t.Fatalf("%s = %v, which is not right", call, got)
	}
}

func checkVecPair(t *testing.T, a impl.Rat, x, y []impl.Rat) {
	t.Helper()
	pair := "(" + briefVec(x) + ", " + briefVec(y) + ")"
	r, code := impl.Dot(x, y)
	checkRat(t, "Dot"+pair, r, code, bigDot(x, y))
	r, code = impl.Norm2(x)
	checkRat(t, "Norm2 "+briefVec(x), r, code, bigDot(x, x))
	var times, more []*big.Rat
	for i, p := range bigVecOf(x) {
		p.Mul(p, bigRatOf(a))
		times = append(times, p)
		more = append(more, new(big.Rat).Add(p, bigRatOf(y[i])))
	}
	z, code := impl.ScaleVec(a, x)
	checkVec(t, "ScaleVec of "+briefRat(a)+", "+briefVec(x), z, code, times)
	z, code = impl.Axpy(a, x, y)
	checkVec(t, "Axpy of "+briefRat(a)+", "+pair, z, code, more)
	if same := impl.SameVec(x, y); same != sameVec(x, y) {
		t.Fatalf("SameVec%s = %v", pair, same)
	}
}

func TestVecOK(t *testing.T) {
	for count := 1; count <= impl.MaxDim; count++ {
		for _, x := range sampleVecs(count) {
			if !impl.VecOK(x) {
				t.Errorf("VecOK(%s) = false", briefVec(x))
			}
		}
		for _, bad := range badRats() {
			for place := range count {
				x := ratsAlike(ratOfInts(1, 2), count)
				x[place] = bad
				if impl.VecOK(x) {
					t.Errorf("VecOK(%s) = true", briefVec(x))
				}
			}
		}
	}
	for _, count := range []int{0, impl.MaxDim + 1, 2 * impl.MaxDim, impl.MaxList, impl.MaxList + 1, 1 << 20} {
		if impl.VecOK(ratsAlike(ratOfInts(1, 2), count)) {
			t.Errorf("VecOK of %d rationals = true", count)
		}
	}
	if impl.VecOK(nil) {
		t.Error("VecOK(nil) = true")
	}
}

func TestVectorsInPairs(t *testing.T) {
	factors := sampleRats()
	for count := 1; count <= impl.MaxDim; count++ {
		list := sampleVecs(count)
		for i, x := range list {
			for j, y := range list {
				checkVecPair(t, factors[(7*i+11*j)%len(factors)], x, y)
			}
			checkVecPair(t, ratOfInts(0, 1), x, x)
			checkVecPair(t, ratOfInts(-1, 1), x, x)
		}
	}
}

func TestSmallVectorsInPairs(t *testing.T) {
	for i := int64(0); i < 625; i++ {
		x, y := []impl.Rat{ratOfInts(i%5-2, 2), ratOfInts(i/5%5-2, 3)}, []impl.Rat{ratOfInts(i/25%5-2, 1), ratOfInts(i/125-2, 6)}
		checkVecPair(t, ratOfInts(i%7-3, 4), x, y)
	}
}

// What is too long on the way may cancel: only what is answered is too long or not.
func TestLongVectorsThatCancel(t *testing.T) {
	top := ratOfLimbs(repeated(9999, impl.MaxLimbs), []int{1})
	thin := ratOfLimbs([]int{1}, repeated(9999, impl.MaxLimbs))
	other := ratOfLimbs(power(39, 7), []int{3})
	turned := func(r impl.Rat) impl.Rat { return impl.Rat{Neg: !r.Neg, Num: r.Num, Den: r.Den} }
	one, none := ratOfInts(1, 1), impl.OK
	for i, c := range []struct {
		x, y []impl.Rat
		code int
	}{
		{[]impl.Rat{top}, []impl.Rat{top}, impl.ErrFull},
		{[]impl.Rat{top}, []impl.Rat{thin}, none},
		{[]impl.Rat{thin}, []impl.Rat{thin}, impl.ErrFull},
		{[]impl.Rat{top, top}, []impl.Rat{top, turned(top)}, none},
		{[]impl.Rat{thin, one, thin}, []impl.Rat{thin, one, turned(thin)}, none},
		{[]impl.Rat{top, other, other, top}, []impl.Rat{other, thin, turned(thin), turned(other)}, none},
		{[]impl.Rat{top, other, other, top}, []impl.Rat{other, thin, thin, other}, impl.ErrFull},
		{[]impl.Rat{top, one}, []impl.Rat{one, one}, impl.ErrFull},
		{[]impl.Rat{top, one}, []impl.Rat{one, turned(one)}, none},
		{[]impl.Rat{top, one, one}, []impl.Rat{one, one, turned(one)}, none},
	} {
		r, code := impl.Dot(c.x, c.y)
		if code != c.code {
			t.Errorf("Dot %d: code %d, want %d", i, code, c.code)
		}
		checkRat(t, fmt.Sprint("Dot ", i), r, code, bigDot(c.x, c.y))
	}
	for i, c := range []struct {
		a    impl.Rat
		x, y []impl.Rat
		code int
	}{
		{ratOfInts(2, 1), []impl.Rat{top}, []impl.Rat{turned(top)}, none},
		{ratOfInts(2, 1), []impl.Rat{one, top}, []impl.Rat{one, one}, impl.ErrFull},
		{ratOfInts(-2, 1), []impl.Rat{top, one}, []impl.Rat{top, one}, none},
		{ratOfInts(-3, 1), []impl.Rat{top, one}, []impl.Rat{top, one}, impl.ErrFull},
		{thin, []impl.Rat{top, one, one, one}, []impl.Rat{top, one, one, thin}, impl.ErrFull},
		{thin, []impl.Rat{top, one, one, one}, []impl.Rat{one, turned(one), ratOfInts(0, 1), thin}, none},
		{top, []impl.Rat{thin, one, one, one}, []impl.Rat{one, turned(one), turned(top), one}, impl.ErrFull},
	} {
		z, code := impl.Axpy(c.a, c.x, c.y)
		if code != c.code || code == impl.OK != impl.VecOK(z) {
			t.Errorf("Axpy %d = %v, %d; want code %d", i, z, code, c.code)
		}
		checkVecPair(t, c.a, c.x, c.y)
	}
}

func TestProductsOfVectorsGoOverSums(t *testing.T) {
	noise := rand.New(rand.NewSource(11))
	ok := must(t)
	vec := func(x []impl.Rat, code int) []impl.Rat {
		t.Helper()
		if code != impl.OK {
			t.Fatalf("a code %d where none is due", code)
		}
		return x
	}
	one, nought := ratOfInts(1, 1), ratOfInts(0, 1)
	for i := range 300 {
		count := 1 + i%impl.MaxDim
		a, x, y, z := ratOfInts(noise.Int63n(99)-49, 1+noise.Int63n(20)), noisyVec(noise, count), noisyVec(noise, count), noisyVec(noise, count)
		// One denominator each keeps what is added up short enough.
		for k := range count {
			x[k].Den, y[k].Den, z[k].Den = []int{1}, []int{1}, []int{1}
		}
		y, z = vec(impl.ScaleVec(ratOfInts(1, 7), y)), vec(impl.ScaleVec(ratOfInts(-3, 10), z))
		sum := vec(impl.Axpy(one, y, z))
		laws := map[string][2]impl.Rat{
			"over sums":            {ok(impl.Dot(x, sum)), ok(impl.AddRat(ok(impl.Dot(x, y)), ok(impl.Dot(x, z))))},
			"over sums ahead":      {ok(impl.Dot(sum, x)), ok(impl.AddRat(ok(impl.Dot(y, x)), ok(impl.Dot(z, x))))},
			"either way":           {ok(impl.Dot(x, y)), ok(impl.Dot(y, x))},
			"over factors":         {ok(impl.Dot(vec(impl.ScaleVec(a, x)), y)), ok(impl.MulRat(a, ok(impl.Dot(x, y))))},
			"over both at once":    {ok(impl.Dot(vec(impl.Axpy(a, x, y)), z)), ok(impl.AddRat(ok(impl.MulRat(a, ok(impl.Dot(x, z)))), ok(impl.Dot(y, z))))},
			"with itself":          {ok(impl.Norm2(x)), ok(impl.Dot(x, x))},
			"of nothing":           {ok(impl.Dot(x, vec(impl.ScaleVec(nought, y)))), nought},
			"of a sum with itself": {ok(impl.Norm2(sum)), ok(impl.AddRat(ok(impl.AddRat(ok(impl.Norm2(y)), ok(impl.Norm2(z)))), ok(impl.MulRat(ratOfInts(2, 1), ok(impl.Dot(y, z))))))},
		}
		for law, sides := range laws {
			if !sameRat(sides[0], sides[1]) {
				t.Errorf("%s: %v, %v of %v, %v, %v, %v", law, sides[0], sides[1], a, x, y, z)
			}
		}
		if length := ok(impl.Norm2(x)); length.Neg || len(length.Num) == 0 {
			t.Errorf("Norm2(%v) = %v", x, length)
		}
		if both := vec(impl.Axpy(one, sum, vec(impl.ScaleVec(ratOfInts(-1, 1), z)))); !impl.SameVec(both, y) {
			t.Errorf("a sum less a part: %v, want %v", both, y)
		}
	}
}

// checkClamp works out by math/big what is due, also the code.
func checkClamp(t *testing.T, x, low, high []impl.Rat) {
	t.Helper()
	call := "Clamp(" + briefVec(x) + ", " + briefVec(low) + ", " + briefVec(high) + ")"
	got, code := impl.Clamp(x, low, high)
	var want []*big.Rat
	for i, p := range bigVecOf(x) {
		least, most := bigRatOf(low[i]), bigRatOf(high[i])
		if least.Cmp(most) > 0 {
			if code != impl.ErrRange || len(got) != 0 {
				t.Fatalf("%s = %v, %d; want ErrRange alone", call, got, code)
			}
			return
		}
		if p.Cmp(least) < 0 {
			p = least
		}
		if p.Cmp(most) > 0 {
			p = most
		}
		want = append(want, p)
	}
	checkVec(t, call, got, code, want)
}

func TestClampOfSmallOnes(t *testing.T) {
	var list []impl.Rat
	for _, n := range []int64{-7, -3, -2, -1, 0, 1, 2, 3, 5} {
		list = append(list, ratOfInts(n, 2), ratOfInts(n, 3))
	}
	for _, x := range list {
		for _, low := range list {
			for _, high := range list {
				checkClamp(t, []impl.Rat{x}, []impl.Rat{low}, []impl.Rat{high})
			}
		}
	}
}

func TestClampOfVectors(t *testing.T) {
	for count := 1; count <= impl.MaxDim; count++ {
		list := sampleVecs(count)
		for i, x := range list {
			for j, y := range list {
				z := list[(3*i+5*j+1)%len(list)]
				checkClamp(t, x, y, z)
				checkClamp(t, x, y, y)
				low, high := slices.Clone(y), slices.Clone(z)
				for k := range low {
					if bigRatOf(low[k]).Cmp(bigRatOf(high[k])) > 0 {
						low[k], high[k] = high[k], low[k]
					}
				}
				checkClamp(t, x, low, high)
				checkBetween(t, x, low, high)
			}
		}
	}
}

func checkBetween(t *testing.T, x, low, high []impl.Rat) {
	t.Helper()
	z, code := impl.Clamp(x, low, high)
	if code != impl.OK {
		t.Fatalf("Clamp(%s, %s, %s): code %d", briefVec(x), briefVec(low), briefVec(high), code)
	}
	for i := range z {
		below, _ := impl.CmpRat(low[i], z[i])
		above, _ := impl.CmpRat(z[i], high[i])
		if below > 0 || above > 0 {
			t.Fatalf("%s is not between %s and %s", briefRat(z[i]), briefRat(low[i]), briefRat(high[i]))
		}
	}
	again, code := impl.Clamp(z, low, high)
	if code != impl.OK || !impl.SameVec(again, z) {
		t.Fatalf("what is between already is clamped to %v, %d; want %v", again, code, z)
	}
}

func TestSameVec(t *testing.T) {
	for count := 1; count <= impl.MaxDim; count++ {
		for _, x := range sampleVecs(count) {
			if !impl.SameVec(x, slices.Clone(x)) || !impl.SameVec(x, x) {
				t.Errorf("SameVec(%s) with itself = false", briefVec(x))
			}
			for place := range count {
				y := slices.Clone(x)
				more, code := impl.AddRat(y[place], ratOfInts(1, 1))
				if y[place] = more; code == impl.OK && (impl.SameVec(x, y) || impl.SameVec(y, x)) {
					t.Errorf("SameVec(%s, %s) = true", briefVec(x), briefVec(y))
				}
			}
			if impl.SameVec(x, x[:count-1]) || impl.SameVec(x[:count-1], x) || impl.SameVec(x, append(slices.Clone(x), x[0])) {
				t.Errorf("SameVec of %s and one of another length = true", briefVec(x))
			}
		}
	}
	for _, x := range [][]impl.Rat{nil, {}, ratsAlike(impl.Rat{}, 1), ratsAlike(ratOfInts(1, 2), 5), ratsAlike(ratOfInts(1, 2), impl.MaxList+1), {ratOfInts(1, 1), {Num: []int{2}, Den: []int{2}}}} {
		if impl.SameVec(x, x) || impl.SameVec(x, vecOfInts(1)) || impl.SameVec(vecOfInts(1), x) {
			t.Errorf("SameVec of %s = true", briefVec(x))
		}
	}
}
