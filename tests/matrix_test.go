package tests

import (
	"math"
	"math/big"
	"math/rand"
	"slices"
	"testing"

	"loop.example/g00615/impl"
)

func ofMatVec(a, x []impl.Rat) answer { return ofVec(impl.MatVec(a, x)) }

func noisyMat(noise *rand.Rand, n int) []impl.Rat { return noisyVec(noise, n*n) }

func TestMatOK(t *testing.T) {
	for n := 1; n <= impl.MaxDim; n++ {
		for count := range 30 {
			a := ratsAlike(ratOfInts(-1, 2), count)
			if got := impl.MatOK(a, n); got != (count == n*n) {
				t.Errorf("MatOK of %d numbers, %d = %v", count, n, got)
			}
		}
		for _, bad := range badRats() {
			for place := range n * n {
				a := ratsAlike(ratOfInts(-1, 2), n*n)
				if a[place] = bad; impl.MatOK(a, n) {
					t.Errorf("MatOK with %s, %d = true", briefRat(bad), n)
				}
			}
		}
	}
	for _, n := range []int{0, -1, -2, -4, 5, 64, 1 << 32, 1 << 33, math.MaxInt, math.MinInt} {
		for _, count := range []int{0, 1, 4, 16, 25, impl.MaxList, impl.MaxList + 1} {
			if impl.MatOK(ratsAlike(ratOfInts(1, 1), count), n) {
				t.Errorf("MatOK of %d numbers, %d = true", count, n)
			}
		}
	}
}

func TestMatVec(t *testing.T) {
	noise := rand.New(rand.NewSource(71))
	for n := 1; n <= impl.MaxDim; n++ {
		rows := sampleVecs(n)
		for i := range 200 {
			a := noisyMat(noise, n)
			if i%2 == 0 {
				a = nil
				for range n {
					a = append(a, rows[noise.Intn(len(rows))]...)
				}
			}
			x := rows[i%len(rows)]
			var want []*big.Rat
			for j := range n {
				want = append(want, bigDot(a[j*n:(j+1)*n], x))
			}
			got, code := impl.MatVec(a, x)
			checkVec(t, "MatVec("+briefVec(a)+", "+briefVec(x)+")", got, code, want)
		}
	}
	got, code := impl.MatVec(vecOfInts(1, 2, 3, 4), vecOfInts(5, 7))
	if told(got) != "19 43" || code != impl.OK {
		t.Errorf("MatVec = %v, %d; want 19 43", got, code)
	}
}

func TestMatVecCodesInOrder(t *testing.T) {
	half, bad := ratOfInts(1, 2), impl.Rat{}
	lists := append(oddVecs(), ratsAlike(half, 9), ratsAlike(half, 16), append(ratsAlike(half, 8), bad), append(ratsAlike(half, 15), bad), ratsAlike(half, 25))
	seen := map[int]int{}
	for _, v := range choices(lists, 2) {
		a, x := v[0], v[1]
		due := impl.OK
		switch {
		case len(a) > impl.MaxList || len(x) > impl.MaxList:
			due = impl.ErrLong
		case len(x) < 1 || len(x) > impl.MaxDim || len(a) != len(x)*len(x) || slices.ContainsFunc(slices.Concat(a, x), func(r impl.Rat) bool { return !impl.RatOK(r) }):
			due = impl.ErrBad
		}
		seen[due]++
		got := ofMatVec(a, x)
		if due != impl.OK && !got.zeroBut(due) || due == impl.OK && got.code != impl.OK && !got.zeroBut(impl.ErrFull) {
			t.Errorf("MatVec of %s = %s; want code %d", briefVecs(v), got, due)
		}
	}
	if seen[impl.OK] < 4 || seen[impl.ErrBad] < 20 || seen[impl.ErrLong] < 20 {
		t.Errorf("codes that were due: %v", seen)
	}
}

func TestMatVecStaysApart(t *testing.T) {
	noise := rand.New(rand.NewSource(72))
	for i := range 100 {
		n := 1 + i%impl.MaxDim
		a, x := noisyMat(noise, n), noisyVec(noise, n)
		if i%10 == 0 {
			a[0] = impl.Rat{}
		}
		first, second := spareVec(a), spareVec(x)
		got := ofMatVec(first, second)
		said := got.String()
		if spoilAll(got.memory()) {
			t.Errorf("MatVec of %s: the lists of one answer share memory", briefVec(a))
		}
		spoilVec(got.vec)
		if !untouchedVec(first, a) || !untouchedVec(second, x) {
			t.Errorf("MatVec of %s and %s: an argument changed, or is shared with the answer", briefVec(a), briefVec(x))
		}
		if again := ofMatVec(a, x).String(); again != said {
			t.Errorf("MatVec of %s and %s = %s, then %s", briefVec(a), briefVec(x), said, again)
		}
	}
}
