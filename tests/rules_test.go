package tests

import (
	"fmt"
	"math"
	"slices"
	"strings"
	"testing"

	"loop.example/g00615/impl"
)

// answer holds all that a call answers, so that one check serves every call.
type answer struct {
	lists  [][]int
	rats   []impl.Rat
	vec    []impl.Rat
	tokens []impl.Token
	nodes  []impl.Node
	lines  []string
	text   string
	sign   int
	code   int
}

func (a answer) zeroBut(code int) bool {
	for _, list := range a.memory() {
		if len(list) != 0 {
			return false
		}
	}
	for _, r := range a.rats {
		if r.Neg {
			return false
		}
	}
	return len(a.vec) == 0 && len(a.tokens) == 0 && len(a.nodes) == 0 && len(a.lines) == 0 && a.text == "" && a.sign == 0 && a.code == code
}

func (a answer) String() string {
	return fmt.Sprint(a.lists, " ", a.rats, " ", a.vec, " ", a.tokens, " ", a.nodes, " ", a.lines, " ", a.text, " ", a.sign, " ", a.code)
}

// memory is every list of the answer, also those within its rationals.
func (a answer) memory() [][]int {
	all := slices.Clone(a.lists)
	for _, r := range slices.Concat(a.rats, a.vec) {
		all = append(all, r.Num, r.Den)
	}
	return all
}

func ofList(call func(a, b []int) ([]int, int)) func(a, b []int) answer {
	return func(a, b []int) answer {
		list, code := call(a, b)
		return answer{lists: [][]int{list}, code: code}
	}
}

func callsOfTwo() map[string]func(a, b []int) answer {
	return map[string]func(a, b []int) answer{
		"AddNat": ofList(impl.AddNat),
		"SubNat": ofList(impl.SubNat),
		"MulNat": ofList(impl.MulNat),
		"GcdNat": ofList(impl.GcdNat),
		"CmpNat": func(a, b []int) answer {
			sign, code := impl.CmpNat(a, b)
			return answer{sign: sign, code: code}
		},
		"DivNat": func(a, b []int) answer {
			quotient, rest, code := impl.DivNat(a, b)
			return answer{lists: [][]int{quotient, rest}, code: code}
		},
	}
}

func callsOfOne() map[string]func(a []int) answer {
	return map[string]func(a []int) answer{
		"RootNat": func(a []int) answer {
			list, code := impl.RootNat(a)
			return answer{lists: [][]int{list}, code: code}
		},
		"NatText": func(a []int) answer {
			text, code := impl.NatText(a)
			return answer{text: text, code: code}
		},
	}
}

func badNats() [][]int {
	return [][]int{
		{0}, {0, 0}, {1, 0}, {5, 7, 0}, {10000}, {-1}, {1, -1}, {-1, 1}, {10000, 1}, {1, 10000}, {3, 10000, 2},
		{math.MaxInt}, {math.MinInt}, {math.MaxInt, 1}, {math.MinInt, 1}, {1, math.MinInt},
		repeated(1, impl.MaxLimbs+1), repeated(0, impl.MaxLimbs), power(impl.MaxLimbs, 1), repeated(1, impl.MaxList), repeated(0, impl.MaxList),
	}
}

func longNats() [][]int {
	return [][]int{repeated(1, impl.MaxList+1), repeated(0, impl.MaxList+1), repeated(-1, 2*impl.MaxList)}
}

func TestCodesOfTwoInOrder(t *testing.T) {
	good := [][]int{nil, {1}, {5, 0, 2}, repeated(9999, impl.MaxLimbs)}
	for name, call := range callsOfTwo() {
		want := func(a, b []int, code int) {
			t.Helper()
			if got := call(a, b); !got.zeroBut(code) {
				t.Errorf("%s(%s, %s) = %s; want code %d alone", name, brief(a), brief(b), got, code)
			}
		}
		for _, bad := range badNats() {
			for _, a := range append(good, badNats()...) {
				want(a, bad, impl.ErrBad)
				want(bad, a, impl.ErrBad)
			}
			for _, long := range longNats() {
				want(bad, long, impl.ErrLong)
				want(long, bad, impl.ErrLong)
			}
		}
		for _, long := range longNats() {
			for _, a := range append(good, longNats()...) {
				want(a, long, impl.ErrLong)
				want(long, a, impl.ErrLong)
			}
		}
	}
}

func TestCodesOfOneInOrder(t *testing.T) {
	for name, call := range callsOfOne() {
		for _, bad := range badNats() {
			if got := call(bad); !got.zeroBut(impl.ErrBad) {
				t.Errorf("%s(%s) = %s; want ErrBad alone", name, brief(bad), got)
			}
		}
		for _, long := range longNats() {
			if got := call(long); !got.zeroBut(impl.ErrLong) {
				t.Errorf("%s of %d limbs = %s; want ErrLong alone", name, len(long), got)
			}
		}
	}
}

const mark = -77

// spare has room behind its end, which no call may write into.
func spare(a []int) []int {
	room := append(slices.Clone(a), mark, mark, mark)
	return room[:len(a)]
}

func untouched(a, was []int) bool {
	room := a[:len(a)+3]
	return slices.Equal(a, was) && slices.Equal(room[len(a):], []int{mark, mark, mark})
}

// spoil writes over an answer and the room behind it, to show what shares memory with it.
func spoil(list []int) {
	room := list[:cap(list)]
	for i := range room {
		room[i] = -5
	}
}

// spoilAll spoils each list by itself, to see whether another one changes with it, then all of them.
func spoilAll(lists [][]int) bool {
	shared := false
	for i, list := range lists {
		others := fmt.Sprint(lists[:i], lists[i+1:])
		kept := slices.Clone(list)
		spoil(list)
		shared = shared || fmt.Sprint(lists[:i], lists[i+1:]) != others
		copy(list, kept)
	}
	for _, list := range lists {
		spoil(list)
	}
	return shared
}

// checkApart calls with a and b, then again: answers are alike, arguments stay, and all lists are new memory.
func checkApart(t *testing.T, name string, call func(a, b []int) answer, a, b []int) {
	t.Helper()
	first, second := spare(a), spare(b)
	got := call(first, second)
	told := got.String()
	if spoilAll(got.memory()) {
		t.Errorf("%s(%s, %s): the lists of one answer share memory", name, brief(a), brief(b))
	}
	if !untouched(first, a) || !untouched(second, b) {
		t.Errorf("%s(%s, %s): an argument changed, or is shared with the answer", name, brief(a), brief(b))
	}
	if again := call(a, b).String(); again != told {
		t.Errorf("%s(%s, %s) = %s, then %s", name, brief(a), brief(b), told, again)
	}
}

func TestArgumentsAndAnswersStayApart(t *testing.T) {
	list := append(sampleNats(), badNats()...)
	for name, call := range callsOfTwo() {
		for i, a := range list {
			for j := range min(len(list), 8) {
				checkApart(t, name, call, a, list[(i+5*j)%len(list)])
				checkApart(t, name, call, list[j], a)
			}
			both := spare(a)
			told := call(a, slices.Clone(a)).String()
			if got := call(both, both).String(); got != told || !untouched(both, a) {
				t.Errorf("%s of one list twice: %s, want %s", name, got, told)
			}
		}
	}
	for name, call := range callsOfOne() {
		for _, a := range list {
			checkApart(t, name, func(a, _ []int) answer { return call(a) }, a, nil)
		}
	}
	for _, a := range list {
		was := spare(a)
		if impl.NatOK(was); !untouched(was, a) {
			t.Errorf("NatOK(%s) changed its argument", brief(a))
		}
	}
}

func TestReadNatAnswersNewMemory(t *testing.T) {
	for _, text := range []string{"7", "10000", "123456789", strings.Repeat("9", 160)} {
		first, _ := impl.ReadNat(text)
		told := fmt.Sprint(first)
		spoil(first)
		if second, code := impl.ReadNat(text); fmt.Sprint(second) != told || code != impl.OK {
			t.Errorf("ReadNat(%q) = %v, %d after its answer was written over", text, second, code)
		}
	}
}

func TestEmptyAndNilAreAlike(t *testing.T) {
	for name, call := range callsOfTwo() {
		for _, a := range sampleNats() {
			if x, y := call(nil, a).String(), call([]int{}, a).String(); x != y {
				t.Errorf("%s of nil: %s, of an empty list: %s", name, x, y)
			}
			if x, y := call(a, nil).String(), call(a, []int{}).String(); x != y {
				t.Errorf("%s with nil: %s, with an empty list: %s", name, x, y)
			}
		}
	}
	for name, call := range callsOfOne() {
		if x, y := call(nil).String(), call([]int{}).String(); x != y {
			t.Errorf("%s of nil: %s, of an empty list: %s", name, x, y)
		}
	}
	if !impl.NatOK(nil) || !impl.NatOK([]int{}) {
		t.Error("NatOK of no limb = false")
	}
}

// checkAnyOrder asks from the first to the last, then from the last to the first: what is told is the same.
func checkAnyOrder(t *testing.T, count int, ask func(i int, told map[string]string)) {
	t.Helper()
	forth, back := map[string]string{}, map[string]string{}
	for i := range count {
		ask(i, forth)
		ask(count-1-i, back)
	}
	for key, told := range forth {
		if back[key] != told {
			t.Errorf("%s: %s, in another order %s", key, told, back[key])
		}
	}
}

func TestAnswersDoNotHangOnEarlierCalls(t *testing.T) {
	list := sampleNats()
	checkAnyOrder(t, len(list), func(i int, told map[string]string) {
		a, b := list[i], list[(i*7+3)%len(list)]
		for name, call := range callsOfTwo() {
			told[fmt.Sprint(name, i)] = call(a, b).String()
		}
		for name, call := range callsOfOne() {
			told[fmt.Sprint(name, i)] = call(a).String()
		}
		told[fmt.Sprint("words", i)] = fmt.Sprint(impl.CodeWord(i), impl.CodeOf(impl.CodeWord(i)), impl.NameOK(impl.CodeWord(i)), impl.NatOK(a))
	})
}
