package tests

import (
	"fmt"
	"math/big"
	"slices"
	"testing"

	"loop.example/g00615/impl"
)

// vecCall is a call with as many vectors as it takes, and a rational if it has one.
type vecCall struct {
	vectors int
	scalar  bool
	call    func(a impl.Rat, v [][]impl.Rat) answer
}

func ofVec(x []impl.Rat, code int) answer {
	return answer{vec: x, code: code}
}

func ofOneRat(r impl.Rat, code int) answer {
	return answer{rats: []impl.Rat{r}, code: code}
}

func vecCalls() map[string]vecCall {
	return map[string]vecCall{
		"Dot":      {2, false, func(_ impl.Rat, v [][]impl.Rat) answer { return ofOneRat(impl.Dot(v[0], v[1])) }},
		"Norm2":    {1, false, func(_ impl.Rat, v [][]impl.Rat) answer { return ofOneRat(impl.Norm2(v[0])) }},
		"Axpy":     {2, true, func(a impl.Rat, v [][]impl.Rat) answer { return ofVec(impl.Axpy(a, v[0], v[1])) }},
		"ScaleVec": {1, true, func(a impl.Rat, v [][]impl.Rat) answer { return ofVec(impl.ScaleVec(a, v[0])) }},
		"Clamp":    {3, false, func(_ impl.Rat, v [][]impl.Rat) answer { return ofVec(impl.Clamp(v[0], v[1], v[2])) }},
	}
}

// oddVecs has right ones of each length, none at all, too many rationals, bad ones at each place, and lists that are too long.
func oddVecs() [][]impl.Rat {
	half, top := ratOfInts(-1, 2), ratOfLimbs(repeated(9999, impl.MaxLimbs), []int{7})
	bad := impl.Rat{Num: []int{2}, Den: []int{4}}
	return [][]impl.Rat{
		{half}, {half, top}, {top, half, half}, {half, half, top, half},
		nil, {}, ratsAlike(half, impl.MaxDim+1), ratsAlike(half, impl.MaxList), ratsAlike(half, impl.MaxList+1), ratsAlike(bad, impl.MaxList+1),
		{bad}, {impl.Rat{}, half}, {half, bad}, {half, half, half, bad}, {half, {Num: repeated(1, impl.MaxList+1), Den: []int{1}}},
	}
}

// dueCode is told by the rules alone, as far as the numbers themselves do not matter.
func dueCode(call vecCall, a impl.Rat, v [][]impl.Rat) int {
	code := impl.OK
	for _, x := range v {
		if len(x) > impl.MaxList {
			return impl.ErrLong
		}
		right := len(x) >= 1 && len(x) <= impl.MaxDim && !slices.ContainsFunc(x, func(r impl.Rat) bool { return !impl.RatOK(r) })
		if !right {
			code = impl.ErrBad
		}
		if code == impl.OK && len(x) != len(v[0]) {
			code = impl.ErrSize
		}
	}
	if code == impl.OK && call.scalar && !impl.RatOK(a) {
		return impl.ErrBad
	}
	return code
}

// choices has each way to fill so many places from the list.
func choices(list [][]impl.Rat, places int) [][][]impl.Rat {
	all := [][][]impl.Rat{nil}
	for range places {
		var longer [][][]impl.Rat
		for _, v := range all {
			for _, x := range list {
				longer = append(longer, append(slices.Clone(v), x))
			}
		}
		all = longer
	}
	return all
}

func TestVecCodesInOrder(t *testing.T) {
	factors := []impl.Rat{ratOfInts(0, 1), ratOfInts(-3, 1), {}, {Num: []int{3}, Den: []int{9}}, {Num: repeated(1, impl.MaxList+1), Den: []int{1}}}
	for name, call := range vecCalls() {
		seen := map[int]int{}
		for _, v := range choices(oddVecs(), call.vectors) {
			for _, a := range factors {
				due := dueCode(call, a, v)
				got := call.call(a, v)
				seen[due]++
				if due != impl.OK && !got.zeroBut(due) {
					t.Errorf("%s of %s and %s = %s; want code %d alone", name, briefRat(a), briefVecs(v), got, due)
				}
				if due == impl.OK && got.code != impl.OK && (!got.zeroBut(got.code) || got.code != impl.ErrFull && got.code != impl.ErrRange) {
					t.Errorf("%s of %s and %s = %s", name, briefRat(a), briefVecs(v), got)
				}
			}
		}
		if seen[impl.OK] == 0 || seen[impl.ErrLong] == 0 || seen[impl.ErrBad] == 0 || call.vectors > 1 && seen[impl.ErrSize] == 0 {
			t.Errorf("%s: codes that were due: %v", name, seen)
		}
	}
}

func briefVecs(v [][]impl.Rat) string {
	text := ""
	for _, x := range v {
		text += briefVec(x)
	}
	return text
}

// A bad vector behind one of another length is bad all the same, and so is one of a box that is crossed elsewhere.
func TestVecCodesOverTheWholeAheadOfTheNext(t *testing.T) {
	one, two, three := vecOfInts(1), vecOfInts(1, 2), vecOfInts(1, 2, 3)
	bad := []impl.Rat{ratOfInts(1, 1), {}}
	low, high := vecOfInts(0, 5, 0), vecOfInts(9, 4, 9)
	for name, c := range map[string]struct {
		got  answer
		code int
	}{
		"size ahead of range":         {ofVec(impl.Clamp(three, vecOfInts(5, 5), vecOfInts(4, 4))), impl.ErrSize},
		"size of the last":            {ofVec(impl.Clamp(two, two, three)), impl.ErrSize},
		"size of the middle":          {ofVec(impl.Clamp(two, three, two)), impl.ErrSize},
		"size of the first":           {ofVec(impl.Clamp(three, two, two)), impl.ErrSize},
		"bad behind size":             {ofVec(impl.Clamp(one, two, bad)), impl.ErrBad},
		"bad ahead of size":           {ofVec(impl.Clamp(bad, two, one)), impl.ErrBad},
		"range at one place":          {ofVec(impl.Clamp(three, low, high)), impl.ErrRange},
		"range though x is elsewhere": {ofVec(impl.Clamp(vecOfInts(100, -100, 7), low, high)), impl.ErrRange},
		"range of the last":           {ofVec(impl.Clamp(three, vecOfInts(0, 0, 1), vecOfInts(0, 0, 0))), impl.ErrRange},
		"range of the first":          {ofVec(impl.Clamp(three, vecOfInts(1, 0, 0), vecOfInts(0, 0, 0))), impl.ErrRange},
		"size ahead of a bad factor":  {ofVec(impl.Axpy(impl.Rat{}, one, two)), impl.ErrSize},
		"bad ahead of too long":       {ofVec(impl.Axpy(impl.Rat{}, ratsAlike(ratOfLimbs(power(39, 1), []int{1}), 2), two)), impl.ErrBad},
		"too long":                    {ofVec(impl.ScaleVec(ratOfLimbs(power(39, 1), []int{1}), []impl.Rat{ratOfInts(1, 1), ratOfInts(10000, 1)})), impl.ErrFull},
	} {
		if !c.got.zeroBut(c.code) {
			t.Errorf("%s: %s; want code %d alone", name, c.got, c.code)
		}
	}
}

// spareVec has room behind its end, and each rational in it has, too.
func spareVec(x []impl.Rat) []impl.Rat {
	room := make([]impl.Rat, 0, len(x)+2)
	for _, r := range x {
		room = append(room, spareRat(r))
	}
	room = append(room, impl.Rat{Neg: true, Num: []int{mark}}, impl.Rat{Den: []int{mark}})
	return room[:len(x)]
}

func untouchedVec(x, was []impl.Rat) bool {
	behind := x[:len(x)+2][len(x):]
	return slices.EqualFunc(x, was, untouchedRat) && behind[0].Neg && slices.Equal(behind[0].Num, []int{mark}) && slices.Equal(behind[1].Den, []int{mark})
}

func spoilVec(x []impl.Rat) {
	room := x[:cap(x)]
	for i := range room {
		room[i] = impl.Rat{Neg: true, Num: []int{-5}, Den: []int{-5}}
	}
}

// checkVecsApart calls with vectors that have room behind them, then with what the answer left of them, then with others that are alike.
func checkVecsApart(t *testing.T, name string, call vecCall, a impl.Rat, v [][]impl.Rat) {
	t.Helper()
	factor := spareRat(a)
	var given [][]impl.Rat
	for _, x := range v {
		given = append(given, spareVec(x))
	}
	got := call.call(factor, given)
	told := got.String()
	if spoilAll(got.memory()) {
		t.Errorf("%s of %s: the lists of one answer share memory", name, briefVecs(v))
	}
	spoilVec(got.vec)
	for i, x := range given {
		if !untouchedVec(x, v[i]) || !untouchedRat(factor, a) {
			t.Errorf("%s of %s: an argument changed, or is shared with the answer", name, briefVecs(v))
		}
	}
	if again := call.call(a, v).String(); again != told {
		t.Errorf("%s of %s = %s, then %s", name, briefVecs(v), told, again)
	}
}

func TestVectorsAndAnswersStayApart(t *testing.T) {
	factors := append(fewRats(), badRats()[:6]...)
	for name, call := range vecCalls() {
		for count := 1; count <= impl.MaxDim; count++ {
			list := sampleVecs(count)[:9]
			list = append(list, nil, oddVecs()[6], oddVecs()[11])
			for i, v := range choices(list, min(call.vectors, 2)) {
				if call.vectors == 3 {
					v = append(v, list[i%len(list)])
				}
				checkVecsApart(t, name, call, factors[i%len(factors)], v)
			}
		}
	}
}

// One vector in all places: what is answered is as that of copies, and no part of it.
func TestOneVectorInAllPlaces(t *testing.T) {
	for name, call := range vecCalls() {
		for _, x := range slices.Concat(sampleVecs(1), sampleVecs(3), sampleVecs(4), oddVecs()) {
			var apart [][]impl.Rat
			one := spareVec(x)
			for range call.vectors {
				apart = append(apart, spareVec(x))
			}
			a := ratOfInts(1, 1)
			if len(x) > 0 {
				a = x[0]
			}
			told := call.call(spareRat(a), apart).String()
			factor := a
			if len(x) > 0 {
				factor = one[0]
			}
			got := call.call(factor, slices.Repeat([][]impl.Rat{one}, call.vectors))
			if got.String() != told {
				t.Errorf("%s of %s in all places = %s, want %s", name, briefVec(x), got, told)
			}
			spoilAll(got.memory())
			spoilVec(got.vec)
			if !untouchedVec(one, x) {
				t.Errorf("%s of %s in all places: it changed, or is shared with the answer", name, briefVec(x))
			}
		}
	}
}

func TestVecOKAndSameVecChangeNothing(t *testing.T) {
	for _, x := range slices.Concat(sampleVecs(2), oddVecs()) {
		first, second := spareVec(x), spareVec(x)
		ok, same := impl.VecOK(first), impl.SameVec(first, second)
		if ok != impl.VecOK(x) || same != ok || !untouchedVec(first, x) || !untouchedVec(second, x) {
			t.Errorf("VecOK and SameVec of %s: %v, %v, or it changed", briefVec(x), ok, same)
		}
	}
}

func TestVecAnswersDoNotHangOnEarlierCalls(t *testing.T) {
	var list [][]impl.Rat
	for count := 1; count <= impl.MaxDim; count++ {
		list = append(list, sampleVecs(count)[:8]...)
	}
	list = append(list, oddVecs()...)
	ask := func(i int, told map[string]string) {
		x, y, z := list[i], list[(i+1)%len(list)], list[(i+2)%len(list)]
		for name, call := range vecCalls() {
			told[fmt.Sprint(name, i)] = call.call(ratOfInts(int64(i)-9, 4), [][]impl.Rat{x, y, z}[:call.vectors]).String()
		}
		told[fmt.Sprint("right and same", i)] = fmt.Sprint(impl.VecOK(x), impl.SameVec(x, y), impl.SameVec(x, x))
	}
	checkAnyOrder(t, len(list), ask)
}

// Noughts that are nil and noughts that are empty lists are one value within vectors, too.
func TestVectorsWithEmptyAndNilAreAlike(t *testing.T) {
	bare, empty := []impl.Rat{{Den: []int{1}}, ratOfInts(1, 3)}, []impl.Rat{{Num: []int{}, Den: []int{1}}, ratOfInts(1, 3)}
	if !impl.SameVec(bare, empty) || !impl.SameVec(empty, bare) {
		t.Error("SameVec of a nought that is nil and one that is empty = false")
	}
	for name, call := range vecCalls() {
		x := call.call(bare[0], slices.Repeat([][]impl.Rat{bare}, call.vectors)).String()
		y := call.call(empty[0], slices.Repeat([][]impl.Rat{empty}, call.vectors)).String()
		if x != y {
			t.Errorf("%s of nil: %s, of empty lists: %s", name, x, y)
		}
	}
	z, code := impl.Clamp(bare, empty, empty)
	checkVec(t, "Clamp of noughts", z, code, []*big.Rat{new(big.Rat), big.NewRat(1, 3)})
}
