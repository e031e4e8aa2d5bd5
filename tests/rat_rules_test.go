package tests

import (
	"fmt"
	"math"
	"slices"
	"testing"

	"loop.example/g00615/impl"
)

func ofRat(call func(a, b impl.Rat) (impl.Rat, int)) func(a, b impl.Rat) answer {
	return func(a, b impl.Rat) answer {
		r, code := call(a, b)
		return answer{rats: []impl.Rat{r}, code: code}
	}
}

func ratCallsOfTwo() map[string]func(a, b impl.Rat) answer {
	return map[string]func(a, b impl.Rat) answer{
		"AddRat": ofRat(impl.AddRat),
		"SubRat": ofRat(impl.SubRat),
		"MulRat": ofRat(impl.MulRat),
		"DivRat": ofRat(impl.DivRat),
		"CmpRat": func(a, b impl.Rat) answer {
			sign, code := impl.CmpRat(a, b)
			return answer{sign: sign, code: code}
		},
	}
}

func ratCallsOfOne() map[string]func(a impl.Rat) answer {
	calls := map[string]func(a impl.Rat) answer{
		"RatText": func(a impl.Rat) answer {
			text, code := impl.RatText(a)
			return answer{text: text, code: code}
		},
	}
	for name, call := range map[string]func(a impl.Rat) (impl.Rat, int){"NegRat": impl.NegRat, "AbsRat": impl.AbsRat, "FloorRat": impl.FloorRat} {
		calls[name] = func(a impl.Rat) answer {
			r, code := call(a)
			return answer{rats: []impl.Rat{r}, code: code}
		}
	}
	for _, n := range []int{0, 1, 2, 3, 8} {
		calls[fmt.Sprint("PowRat ", n)] = func(a impl.Rat) answer {
			r, code := impl.PowRat(a, n)
			return answer{rats: []impl.Rat{r}, code: code}
		}
	}
	return calls
}

// badRats has parts that are no naturals, nothing below, a sign at 0, and terms that are not the lowest.
// No list within a rational is too long: its limbs are what is not right.
func badRats() []impl.Rat {
	one := []int{1}
	list := []impl.Rat{
		{}, {Neg: true}, {Num: one}, {Num: one, Den: []int{}}, {Neg: true, Den: one}, {Neg: true, Num: []int{}, Den: one},
		{Den: []int{2}}, {Den: []int{0, 1}}, {Neg: true, Den: []int{2}}, {Num: []int{2}, Den: []int{4}}, {Neg: true, Num: []int{2}, Den: []int{4}},
		{Num: []int{2}, Den: []int{2}}, {Num: []int{3}, Den: []int{9}}, {Num: []int{10}, Den: []int{0, 1}}, {Num: []int{0, 1}, Den: []int{5}},
		{Num: repeated(9999, 40), Den: repeated(9999, 40)}, {Num: repeated(9999, 40), Den: []int{3}}, {Num: []int{3}, Den: repeated(9999, 40)},
		{Num: []int{7}, Den: repeated(7, 40)}, {Num: power(39, 1), Den: power(20, 1)},
	}
	for _, bad := range append(badNats(), longNats()...) {
		list = append(list, impl.Rat{Num: bad, Den: one}, impl.Rat{Num: one, Den: bad}, impl.Rat{Neg: true, Num: bad, Den: bad}, impl.Rat{Num: bad})
	}
	return list
}

func fewRats() []impl.Rat {
	top := repeated(9999, impl.MaxLimbs)
	return bothSigns([]impl.Rat{{Den: []int{1}}, ratOfInts(1, 1), ratOfInts(5, 6), ratOfLimbs(top, []int{1}), ratOfLimbs([]int{1}, top)})
}

func TestRatCodesOfTwoInOrder(t *testing.T) {
	others := append(fewRats(), badRats()...)
	for name, call := range ratCallsOfTwo() {
		for _, bad := range badRats() {
			for _, a := range others {
				if got := call(a, bad); !got.zeroBut(impl.ErrBad) {
					t.Errorf("%s(%s, %s) = %s; want ErrBad alone", name, briefRat(a), briefRat(bad), got)
				}
				if got := call(bad, a); !got.zeroBut(impl.ErrBad) {
					t.Errorf("%s(%s, %s) = %s; want ErrBad alone", name, briefRat(bad), briefRat(a), got)
				}
			}
		}
	}
	for _, a := range fewRats() {
		if got := ofRat(impl.DivRat)(a, impl.Rat{Den: []int{1}}); !got.zeroBut(impl.ErrZero) {
			t.Errorf("DivRat(%s, 0) = %s; want ErrZero alone", briefRat(a), got)
		}
	}
}

func TestRatCodesOfOneInOrder(t *testing.T) {
	calls := ratCallsOfOne()
	// What is not right comes ahead of an exponent that is out of its bounds.
	for _, n := range []int{-1, 9, math.MinInt, math.MaxInt} {
		calls[fmt.Sprint("PowRat ", n)] = func(a impl.Rat) answer {
			r, code := impl.PowRat(a, n)
			return answer{rats: []impl.Rat{r}, code: code}
		}
	}
	for name, call := range calls {
		for _, bad := range badRats() {
			if got := call(bad); !got.zeroBut(impl.ErrBad) {
				t.Errorf("%s of %s = %s; want ErrBad alone", name, briefRat(bad), got)
			}
		}
	}
}

func spareRat(r impl.Rat) impl.Rat {
	return impl.Rat{Neg: r.Neg, Num: spare(r.Num), Den: spare(r.Den)}
}

func untouchedRat(r, was impl.Rat) bool {
	return r.Neg == was.Neg && untouched(r.Num, was.Num) && untouched(r.Den, was.Den)
}

// checkRatsApart calls with a and b, then again, and with both in one: answers are alike, arguments stay, and all lists are new memory.
func checkRatsApart(t *testing.T, name string, call func(a, b impl.Rat) answer, a, b impl.Rat) {
	t.Helper()
	pair := "(" + briefRat(a) + ", " + briefRat(b) + ")"
	first, second := spareRat(a), spareRat(b)
	got := call(first, second)
	told := got.String()
	if spoilAll(got.memory()) {
		t.Errorf("%s%s: the lists of one answer share memory", name, pair)
	}
	if !untouchedRat(first, a) || !untouchedRat(second, b) {
		t.Errorf("%s%s: an argument changed, or is shared with the answer", name, pair)
	}
	if again := call(a, b).String(); again != told {
		t.Errorf("%s%s = %s, then %s", name, pair, told, again)
	}
	cells := slices.Concat(a.Num, a.Den, b.Num, b.Den)
	was := slices.Clone(cells)
	at, rest := impl.Rat{Neg: a.Neg}, impl.Rat{Neg: b.Neg}
	left := cells
	for _, part := range []struct {
		to   *[]int
		size int
	}{{&at.Num, len(a.Num)}, {&at.Den, len(a.Den)}, {&rest.Num, len(b.Num)}, {&rest.Den, len(b.Den)}} {
		*part.to, left = left[:part.size], left[part.size:]
	}
	if again := call(at, rest).String(); again != told || !slices.Equal(cells, was) {
		t.Errorf("%s%s of lists that stand in one = %s, want %s", name, pair, again, told)
	}
}

func TestRatsAndAnswersStayApart(t *testing.T) {
	list := append(sampleRats(), badRats()...)
	for name, call := range ratCallsOfTwo() {
		for i, a := range list {
			checkRatsApart(t, name, call, a, list[(i*7+3)%len(list)])
			both := spareRat(a)
			told := call(a, a).String()
			if got := call(both, both).String(); got != told || !untouchedRat(both, a) {
				t.Errorf("%s of one rational twice: %s, want %s", name, got, told)
			}
		}
	}
	for name, call := range ratCallsOfOne() {
		for _, a := range list {
			checkRatsApart(t, name, func(a, _ impl.Rat) answer { return call(a) }, a, impl.Rat{})
		}
	}
	for _, a := range list {
		was := spareRat(a)
		if impl.RatOK(was); !untouchedRat(was, a) {
			t.Errorf("RatOK(%s) changed its argument", briefRat(a))
		}
	}
}

func TestMadeAndReadRatsAreNewMemory(t *testing.T) {
	calls := map[string]func() (impl.Rat, int){
		"MakeRat of 6 over -4":     func() (impl.Rat, int) { return impl.MakeRat(6, -4) },
		"MakeRat of 0 over 5":      func() (impl.Rat, int) { return impl.MakeRat(0, 5) },
		"MakeRat of 7 over 1":      func() (impl.Rat, int) { return impl.MakeRat(7, 1) },
		"MakeRat of 1 over itself": func() (impl.Rat, int) { return impl.MakeRat(1, 1) },
		"ReadRat of 1":             func() (impl.Rat, int) { return impl.ReadRat("1") },
		"ReadRat of 0":             func() (impl.Rat, int) { return impl.ReadRat("0") },
		"ReadRat of -123456/7":     func() (impl.Rat, int) { return impl.ReadRat("-123456/7") },
		"PowRat of 0 to 0":         func() (impl.Rat, int) { return impl.PowRat(impl.Rat{Den: []int{1}}, 0) },
		"FloorRat of -1/2":         func() (impl.Rat, int) { return impl.FloorRat(impl.Rat{Neg: true, Num: []int{1}, Den: []int{2}}) },
	}
	for name, call := range calls {
		r, code := call()
		got := answer{rats: []impl.Rat{r}, code: code}
		told := got.String()
		if spoilAll(got.memory()) {
			t.Errorf("%s: the lists of one answer share memory", name)
		}
		r, code = call()
		if again := (answer{rats: []impl.Rat{r}, code: code}).String(); again != told || code != impl.OK {
			t.Errorf("%s = %s after its answer was written over, ahead of that %s", name, again, told)
		}
	}
}

func TestRatAnswersDoNotHangOnEarlierCalls(t *testing.T) {
	list := append(sampleRats(), badRats()...)
	ask := func(i int, told map[string]string) {
		a, b := list[i], list[(i*11+5)%len(list)]
		for name, call := range ratCallsOfTwo() {
			told[fmt.Sprint(name, i)] = call(a, b).String()
		}
		for name, call := range ratCallsOfOne() {
			told[fmt.Sprint(name, i)] = call(a).String()
		}
		made, code := impl.MakeRat(i-20, i-10)
		told[fmt.Sprint("made", i)] = fmt.Sprint(made, code, impl.RatOK(a))
	}
	checkAnyOrder(t, len(list), ask)
}
