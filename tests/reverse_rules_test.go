package tests

import (
	"fmt"
	"math/rand"
	"slices"
	"testing"

	"loop.example/g00615/impl"
)

// dueBackPlace is told by the rules ahead of the steps: all of p and x comes ahead of v, but for what is too long.
func dueBackPlace(c backCall, p impl.Tape, x, v []impl.Rat) int {
	if c.takesWay && len(v) > impl.MaxList {
		return impl.ErrLong
	}
	code := dueTapePlace(p, x)
	switch {
	case code != impl.OK || !c.takesWay:
		return code
	case len(v) < 1 || len(v) > impl.MaxDim || slices.ContainsFunc(v, func(r impl.Rat) bool { return !impl.RatOK(r) }):
		return impl.ErrBad
	case len(v) != len(x):
		return impl.ErrSize
	}
	return impl.OK
}

func TestWayBackCodesInOrder(t *testing.T) {
	for name, c := range backCalls() {
		seen := map[int]int{}
		for _, p := range oddTapes() {
			for _, list := range choices(oddVecs(), 2) {
				x, v := list[0], list[1]
				due := dueBackPlace(c, p, x, v)
				seen[due]++
				if due == impl.OK {
					_, due = dueBack(c, p, x, v)
				}
				if got := c.call(p, x, v); due != impl.OK && !got.zeroBut(due) || due == impl.OK && got.code != impl.OK {
					t.Errorf("%s of %s, %s = %s; want code %d", name, briefTape(p), briefVecs(list), got, due)
				}
			}
		}
		for _, code := range []int{impl.OK, impl.ErrLong, impl.ErrBad, impl.ErrSize} {
			if seen[code] < 10 {
				t.Errorf("%s: codes that were due: %v", name, seen)
			}
		}
	}
}

// Each line has two faults, the one that comes first named ahead.
func TestWayBackCodesByName(t *testing.T) {
	bad, half := tapeOf(stepVar(1), stepVar(1)), ratOfInts(1, 2)
	wide, over := tapeOf(stepConst(0), stepTwo(impl.OpDiv, 0, 0), stepVar(1)), tapeOf(stepVar(0), stepTwo(impl.OpDiv, 0, 0))
	one, two, none, long := vecOfInts(0), vecOfInts(0, 1), []impl.Rat{{}}, ratsAlike(half, impl.MaxList+1)
	for name, c := range map[string]struct {
		p    impl.Tape
		x, v []impl.Rat
		code int
		grad int
	}{
		"long x, bad p":              {bad, long, one, impl.ErrLong, impl.ErrLong},
		"long x of bad ones":         {over, ratsAlike(impl.Rat{}, impl.MaxList+1), one, impl.ErrLong, impl.ErrLong},
		"long v, bad p":              {bad, one, long, impl.ErrLong, impl.ErrBad},
		"long v, bad x":              {over, nil, long, impl.ErrLong, impl.ErrBad},
		"long v, x too short":        {wide, one, long, impl.ErrLong, impl.ErrSize},
		"long v, over 0":             {over, one, long, impl.ErrLong, impl.ErrDomain},
		"v of MaxList":               {over, one, long[1:], impl.ErrBad, impl.ErrDomain},
		"x of MaxList":               {over, long[1:], one, impl.ErrBad, impl.ErrBad},
		"no steps":                   {impl.Tape{}, two, two, impl.ErrBad, impl.ErrBad},
		"Out is not the last":        {impl.Tape{Steps: over.Steps}, two, two, impl.ErrBad, impl.ErrBad},
		"bad p, x of none":           {bad, nil, one, impl.ErrBad, impl.ErrBad},
		"bad p, x too short":         {bad, one, one, impl.ErrBad, impl.ErrBad},
		"bad p, v longer":            {bad, two, vecOfInts(1, 2, 3), impl.ErrBad, impl.ErrBad},
		"bad x, too short":           {wide, none, two, impl.ErrBad, impl.ErrBad},
		"bad x, bad v":               {over, none, none, impl.ErrBad, impl.ErrBad},
		"x of five":                  {over, ratsAlike(half, 5), ratsAlike(half, 5), impl.ErrBad, impl.ErrBad},
		"x of none, v of none":       {tapeOf(stepConst(7)), nil, nil, impl.ErrBad, impl.ErrBad},
		"x too short, bad v":         {wide, one, none, impl.ErrSize, impl.ErrSize},
		"x too short, v of none":     {wide, one, nil, impl.ErrSize, impl.ErrSize},
		"x too short, v longer":      {wide, one, two, impl.ErrSize, impl.ErrSize},
		"x too short, over 0":        {wide, one, one, impl.ErrSize, impl.ErrSize},
		"bad v of another length":    {over, one, []impl.Rat{half, {}}, impl.ErrBad, impl.ErrDomain},
		"bad v, over 0":              {over, one, none, impl.ErrBad, impl.ErrDomain},
		"v of five, over 0":          {over, one, ratsAlike(half, 5), impl.ErrBad, impl.ErrDomain},
		"v longer, over 0":           {over, one, two, impl.ErrSize, impl.ErrDomain},
		"v shorter, over 0":          {over, two, one, impl.ErrSize, impl.ErrDomain},
		"v longer, too long a value": {tapeOf(stepVar(0), stepPow(0, 8)), vecOf(t, "1e20"), two, impl.ErrSize, impl.ErrFull},
		"v shorter":                  {tapeOf(stepConst(7)), two, one, impl.ErrSize, impl.OK},
		"over 0":                     {over, two, two, impl.ErrDomain, impl.ErrDomain},
		"over 0, x longer":           {wide, vecOfInts(1, 2, 3), vecOfInts(1, 2, 3), impl.ErrDomain, impl.ErrDomain},
	} {
		for call, m := range backCalls() {
			got, due := m.call(c.p, c.x, c.v), c.code
			if !m.takesWay {
				due = c.grad
			}
			if due != impl.OK && !got.zeroBut(due) || got.code != due {
				t.Errorf("%s: %s = %s; want code %d alone", name, call, got, due)
			}
		}
	}
}

// sampleWays has a way for each point, as long as it or not.
func sampleWays(points [][]impl.Rat) [][]impl.Rat {
	noise := rand.New(rand.NewSource(86))
	var ways [][]impl.Rat
	for i, x := range points {
		v := oddVecs()[i%len(oddVecs())]
		switch n := len(x); {
		case n <= impl.MaxDim && i%4 < 2:
			v = smallVec(noise, n)
		case n <= impl.MaxDim && i%4 == 2:
			v = noisyVec(noise, n)
		}
		ways = append(ways, v)
	}
	return ways
}

func TestWaysBackAndArgumentsStayApart(t *testing.T) {
	list, points := sampleTapes()
	ways := sampleWays(points)
	for name, c := range backCalls() {
		answered := 0
		for i, p := range list {
			given, x, v := impl.Tape{Steps: spareNodes(p.Steps), Out: p.Out}, spareVec(points[i]), spareVec(ways[i])
			got := c.call(given, x, v)
			said := got.String()
			if spoilAll(got.memory()) {
				t.Errorf("%s of %s: the lists of one answer share memory", name, briefTape(p))
			}
			spoilVec(got.vec)
			if !untouchedNodes(given.Steps, p.Steps) || !untouchedVec(x, points[i]) || !untouchedVec(v, ways[i]) {
				t.Errorf("%s of %s: an argument changed, or is shared with the answer", name, briefTape(p))
			}
			if again := c.call(p, points[i], ways[i]).String(); again != said {
				t.Errorf("%s of %s = %s, then %s", name, briefTape(p), said, again)
			}
			if got.code == impl.OK {
				answered++
			}
		}
		if answered < 20 {
			t.Errorf("%s: %d answers", name, answered)
		}
	}
}

// What is handed in comes back in the answer as a copy: a way of one variable, numbers at which the answer hangs on another one.
func TestWaysBackAnswerNewMemory(t *testing.T) {
	for name, c := range backCalls() {
		for _, p := range []impl.Tape{tapeOf(stepVar(0)), tapeOf(stepVar(1)), tapeOf(stepVar(0), stepVar(1), stepTwo(impl.OpMul, 0, 1)), tapeOf(stepVar(0), stepPow(0, 1)), tapeOf(stepConst(5))} {
			x, v := vecOf(t, "123456789/1000 2"), vecOf(t, "5/3 987654321")
			given, way := spareVec(x), spareVec(v)
			first, second := c.call(p, given, way), c.call(p, given, way)
			said := first.String()
			if spoilAll(first.memory()) {
				t.Errorf("%s of %s: the lists of one answer share memory", name, briefTape(p))
			}
			spoilVec(first.vec)
			if !untouchedVec(given, x) || !untouchedVec(way, v) || second.String() != said || c.call(p, x, v).String() != said {
				t.Errorf("%s of %s: %s, with its answer written over %s", name, briefTape(p), said, second)
			}
		}
	}
}

// The point is the way, too: what is answered is as that of copies, and no part of it.
func TestOneVectorAsPointAndWayBack(t *testing.T) {
	list, points := sampleTapes()
	for name, c := range backCalls() {
		for i, p := range list {
			said := c.call(p, spareVec(points[i]), spareVec(points[i])).String()
			both := spareVec(points[i])
			got := c.call(p, both, both)
			if got.String() != said {
				t.Errorf("%s of %s with one vector twice = %s, want %s", name, briefTape(p), got, said)
			}
			spoilAll(got.memory())
			spoilVec(got.vec)
			if !untouchedVec(both, points[i]) {
				t.Errorf("%s of %s with one vector twice: it changed, or is shared with the answer", name, briefTape(p))
			}
		}
	}
}

func TestWaysBackDoNotHangOnEarlierCalls(t *testing.T) {
	list, points := sampleTapes()
	ways := sampleWays(points)
	checkAnyOrder(t, len(list), func(i int, told map[string]string) {
		for name, c := range backCalls() {
			told[fmt.Sprint(name, i)] = c.call(list[i], points[i], ways[i]).String()
		}
	})
}

func TestWaysBackWithEmptyAndNilAreAlike(t *testing.T) {
	bare, empty := []impl.Rat{{Den: []int{1}}, ratOfInts(1, 3)}, []impl.Rat{{Num: []int{}, Den: []int{1}}, ratOfInts(1, 3)}
	for name, c := range backCalls() {
		for _, p := range oddTapes() {
			said := c.call(p, bare, bare).String()
			for _, got := range []answer{c.call(p, empty, bare), c.call(p, bare, empty), c.call(p, empty, empty)} {
				if got.String() != said {
					t.Errorf("%s of %s with nil: %s, with empty lists: %s", name, briefTape(p), said, got)
				}
			}
		}
		for _, none := range [][]impl.Rat{nil, {}} {
			for _, x := range [][]impl.Rat{none, bare} {
				if got := c.call(tapeOf(stepConst(1)), x, none); (len(x) == 0 || c.takesWay) && !got.zeroBut(impl.ErrBad) {
					t.Errorf("%s of no number = %s; want ErrBad alone", name, got)
				}
			}
		}
		for _, p := range []impl.Tape{{}, {Steps: []impl.Node{}}, {Out: -1}} {
			if got := c.call(p, bare, bare); !got.zeroBut(impl.ErrBad) {
				t.Errorf("%s of no steps = %s; want ErrBad alone", name, got)
			}
		}
	}
}

// What is no tape is refused wherever it is bent.
func TestWayBackOfBentTapes(t *testing.T) {
	noise := rand.New(rand.NewSource(87))
	refused := 0
	for i := range 400 {
		p := noisyTape(noise, 1+i%40)
		bent := impl.Tape{Steps: slices.Clone(p.Steps), Out: p.Out}
		n := &bent.Steps[noise.Intn(len(bent.Steps))]
		field := []*int{&n.Op, &n.A, &n.B, &n.N, &bent.Out}[i%5]
		*field = []int{*field - 1, *field + 1, odd()[noise.Intn(len(odd()))]}[noise.Intn(3)]
		right := dueTapeRight(bent)
		for name, c := range backCalls() {
			got := c.call(bent, vecOfInts(2, 3, 5, 7), vecOfInts(1, 0, -1, 2))
			if right && got.code == impl.ErrBad || !right && !got.zeroBut(impl.ErrBad) {
				t.Errorf("%s of %s = %s; right is %v", name, briefTape(bent), got, right)
			}
		}
		if !right {
			refused++
		}
	}
	if refused < 200 {
		t.Errorf("%d were not right", refused)
	}
}
