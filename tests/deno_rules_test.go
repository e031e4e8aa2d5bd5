package tests

import (
	"fmt"
	"math/rand"
	"slices"
	"testing"

	"loop.example/g00615/impl"
)

// oddExprs has right ones with none to all of the variables, and ones that are not right, too long ones among them.
func oddExprs() []impl.Expr {
	leaf := impl.Node{Op: impl.OpConst, N: 2}
	list := []impl.Expr{leafConst(7).expr(), negOf(leafConst(7)).expr(), twigOf(6, leafConst(1), leafConst(0)).expr()}
	for n := range impl.MaxDim {
		list = append(list, leafVar(n).expr(), twigOf(3, leafVar(n), powOf(leafVar(0), 2)).expr())
	}
	for _, nodes := range [][]impl.Node{
		nil, {}, {{}}, {{Op: 9}}, {leaf, leaf}, {leaf, {Op: impl.OpNeg, A: 1}}, {{Op: impl.OpVar, N: 4}}, {{Op: impl.OpConst, N: -1}}, {leaf, leaf, {Op: impl.OpAdd, A: 1, B: 0}},
		slices.Repeat([]impl.Node{leaf}, impl.MaxList), slices.Repeat([]impl.Node{leaf}, impl.MaxList+1), evenTwig(61).nodes(nil), chainTwig(12, 0, 1).nodes(nil),
	} {
		list = append(list, impl.Expr{Nodes: nodes})
	}
	return list
}

// duePlace is told by the rules of chapter 7 ahead of the nodes.
func duePlace(e impl.Expr, x []impl.Rat, ways ...[]impl.Rat) int {
	right := func(v []impl.Rat) bool {
		return len(v) >= 1 && len(v) <= impl.MaxDim && !slices.ContainsFunc(v, func(r impl.Rat) bool { return !impl.RatOK(r) })
	}
	for _, v := range append(ways, x) {
		if len(v) > impl.MaxList {
			return impl.ErrLong
		}
	}
	ok, _ := dueRight(e.Nodes)
	if !ok || !right(x) {
		return impl.ErrBad
	}
	for _, n := range e.Nodes {
		if n.Op == impl.OpVar && n.N >= len(x) {
			return impl.ErrSize
		}
	}
	for _, v := range ways {
		if !right(v) {
			return impl.ErrBad
		}
		if len(v) != len(x) {
			return impl.ErrSize
		}
	}
	return impl.OK
}

func TestMeaningCodesInOrder(t *testing.T) {
	for name, c := range meaningCalls() {
		seen := map[int]int{}
		for _, e := range oddExprs() {
			for _, v := range choices(oddVecs(), 2) {
				due := duePlace(e, v[0])
				if c.takesWay {
					due = duePlace(e, v[0], v[1])
				}
				seen[due]++
				got := c.call(e, v[0], v[1])
				if due != impl.OK && !got.zeroBut(due) {
					t.Errorf("%s of %s, %s = %s; want code %d alone", name, briefNodes(e.Nodes), briefVecs(v), got, due)
				}
				if due != impl.OK {
					continue
				}
				if _, codes := dueMeaning(name, c, e.Nodes, v[0], v[1]); !slices.Contains(codes, got.code) {
					t.Errorf("%s of %s, %s = %s; want code %d", name, briefNodes(e.Nodes), briefVecs(v), got, codes[0])
				}
			}
		}
		for _, code := range []int{impl.OK, impl.ErrLong, impl.ErrBad, impl.ErrSize} {
			if seen[code] < 20 {
				t.Errorf("%s: codes that were due: %v", name, seen)
			}
		}
	}
}

// Each line has two faults, the one that comes first named ahead.
func TestMeaningCodesByName(t *testing.T) {
	bad, half := impl.Expr{Nodes: []impl.Node{{Op: 9}}}, ratOfInts(1, 2)
	wide, over := leafVar(1).expr(), twigOf(6, leafConst(1), leafVar(0)).expr()
	one, two, none, long := vecOfInts(0), vecOfInts(0, 1), []impl.Rat{{}}, ratsAlike(half, impl.MaxList+1)
	for name, c := range map[string]struct {
		e    impl.Expr
		x, v []impl.Rat
		code int
	}{
		"long x, bad e":              {bad, long, one, impl.ErrLong},
		"long v, bad e":              {bad, one, long, impl.ErrLong},
		"long v, bad x":              {over, nil, long, impl.ErrLong},
		"long v, x too short":        {wide, one, long, impl.ErrLong},
		"long v, over 0":             {over, one, long, impl.ErrLong},
		"bad e, x of none":           {bad, nil, one, impl.ErrBad},
		"bad x, bad v":               {over, none, none, impl.ErrBad},
		"x of none, v of none":       {leafConst(7).expr(), nil, nil, impl.ErrBad},
		"x too short, bad v":         {wide, one, none, impl.ErrSize},
		"x too short, v of none":     {wide, one, nil, impl.ErrSize},
		"x too short, v longer":      {wide, one, two, impl.ErrSize},
		"bad v of another length":    {over, one, []impl.Rat{half, {}}, impl.ErrBad},
		"bad v, over 0":              {over, one, none, impl.ErrBad},
		"v of five, over 0":          {over, one, ratsAlike(half, 5), impl.ErrBad},
		"v longer, over 0":           {over, one, two, impl.ErrSize},
		"v shorter, over 0":          {over, two, one, impl.ErrSize},
		"v as long as DimOf alone":   {over, vecOfInts(1, 2), vecOfInts(1), impl.ErrSize},
		"no variables, v of another": {leafConst(7).expr(), two, one, impl.ErrSize},
		"over 0":                     {over, two, two, impl.ErrDomain},
	} {
		for call, m := range meaningCalls() {
			if got := m.call(c.e, c.x, c.v); m.takesWay && !got.zeroBut(c.code) {
				t.Errorf("%s: %s = %s; want code %d alone", name, call, got, c.code)
			}
		}
	}
}

// sampleMeanings has right arguments, with codes and without, and ones that are not right.
func sampleMeanings() (list []impl.Expr, points, ways [][]impl.Rat) {
	noise := rand.New(rand.NewSource(66))
	add := func(e impl.Expr, x, v []impl.Rat) {
		list, points, ways = append(list, e), append(points, x), append(ways, v)
	}
	for i := range 60 {
		w := tameTwig(noise, 1+i%20, 1+i%6)
		add(w.expr(), smallVec(noise, impl.MaxDim), smallVec(noise, impl.MaxDim))
		add(w.expr(), noisyVec(noise, impl.MaxDim), noisyVec(noise, impl.MaxDim))
	}
	for n := range impl.MaxDim {
		add(leafVar(n).expr(), noisyVec(noise, n+1), noisyVec(noise, n+1))
	}
	for i, e := range oddExprs() {
		add(e, oddVecs()[i%len(oddVecs())], oddVecs()[(3*i+1)%len(oddVecs())])
		add(e, oddVecs()[i%4], oddVecs()[i%4])
	}
	return list, points, ways
}

func TestMeaningsAndArgumentsStayApart(t *testing.T) {
	list, points, ways := sampleMeanings()
	for name, c := range meaningCalls() {
		for i, e := range list {
			given, x, v := impl.Expr{Nodes: spareNodes(e.Nodes)}, spareVec(points[i]), spareVec(ways[i])
			got := c.call(given, x, v)
			said := got.String()
			if spoilAll(got.memory()) {
				t.Errorf("%s of %s: the lists of one answer share memory", name, briefNodes(e.Nodes))
			}
			spoilVec(got.vec)
			if !untouchedNodes(given.Nodes, e.Nodes) || !untouchedVec(x, points[i]) || !untouchedVec(v, ways[i]) {
				t.Errorf("%s of %s: an argument changed, or is shared with the answer", name, briefNodes(e.Nodes))
			}
			if again := c.call(e, points[i], ways[i]).String(); again != said {
				t.Errorf("%s of %s = %s, then %s", name, briefNodes(e.Nodes), said, again)
			}
		}
	}
}

// The point is the way, too: what is answered is as that of copies, and no part of it.
func TestOneVectorAsPointAndWay(t *testing.T) {
	list, points, _ := sampleMeanings()
	for name, c := range meaningCalls() {
		for i, e := range list {
			said := c.call(e, spareVec(points[i]), spareVec(points[i])).String()
			both := spareVec(points[i])
			got := c.call(e, both, both)
			if got.String() != said {
				t.Errorf("%s of %s with one vector twice = %s, want %s", name, briefNodes(e.Nodes), got, said)
			}
			spoilAll(got.memory())
			spoilVec(got.vec)
			if !untouchedVec(both, points[i]) {
				t.Errorf("%s of %s with one vector twice: it changed, or is shared with the answer", name, briefNodes(e.Nodes))
			}
		}
	}
}

func TestMeaningsDoNotHangOnEarlierCalls(t *testing.T) {
	list, points, ways := sampleMeanings()
	checkAnyOrder(t, len(list), func(i int, told map[string]string) {
		for name, c := range meaningCalls() {
			told[fmt.Sprint(name, i)] = c.call(list[i], points[i], ways[i]).String()
		}
	})
}

func TestMeaningsWithEmptyAndNilAreAlike(t *testing.T) {
	bare, empty := []impl.Rat{{Den: []int{1}}, ratOfInts(1, 3)}, []impl.Rat{{Num: []int{}, Den: []int{1}}, ratOfInts(1, 3)}
	noise := rand.New(rand.NewSource(67))
	for name, c := range meaningCalls() {
		for i := range 40 {
			e := tameTwig(noise, 1+i, 6).expr()
			said := c.call(e, bare, bare).String()
			for _, got := range []answer{c.call(e, empty, bare), c.call(e, bare, empty), c.call(e, empty, empty)} {
				if got.String() != said {
					t.Errorf("%s of nil: %s, of empty lists: %s", name, said, got)
				}
			}
		}
		for _, e := range []impl.Expr{{}, {Nodes: []impl.Node{}}} {
			if got := c.call(e, bare, bare); !got.zeroBut(impl.ErrBad) {
				t.Errorf("%s of no nodes = %s; want ErrBad alone", name, got)
			}
		}
		for _, x := range [][]impl.Rat{nil, {}} {
			if got := c.call(leafConst(1).expr(), x, x); !got.zeroBut(impl.ErrBad) {
				t.Errorf("%s at no number = %s; want ErrBad alone", name, got)
			}
		}
	}
}
