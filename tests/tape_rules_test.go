package tests

import (
	"fmt"
	"math/rand"
	"slices"
	"testing"

	"loop.example/g00615/impl"
)

func tapeCalls() map[string]func(p impl.Tape, x []impl.Rat) answer {
	return map[string]func(p impl.Tape, x []impl.Rat) answer{
		"RunTape": func(p impl.Tape, x []impl.Rat) answer { return ofVec(impl.RunTape(p, x)) },
		"TapeText": func(p impl.Tape, _ []impl.Rat) answer {
			lines, code := impl.TapeText(p)
			return answer{lines: lines, code: code}
		},
	}
}

func compiled(e impl.Expr) answer {
	p, code := impl.Compile(e)
	return answer{nodes: p.Steps, sign: p.Out, code: code}
}

// dueTapeRight is told by the rules of chapter 8, step by step with all ahead of it.
func dueTapeRight(p impl.Tape) bool {
	if len(p.Steps) < 1 || len(p.Steps) > 60 || p.Out != len(p.Steps)-1 {
		return false
	}
	for i, n := range p.Steps {
		ahead := func(child int) bool { return 0 <= child && child < i }
		right := false
		switch n.Op {
		case 1:
			right = n.A == 0 && n.B == 0 && 0 <= n.N && n.N <= 999999999
		case 2:
			right = n.A == 0 && n.B == 0 && 0 <= n.N && n.N <= 3
		case 3, 4, 5, 6:
			right = ahead(n.A) && ahead(n.B) && n.N == 0
		case 7:
			right = ahead(n.A) && n.B == 0 && n.N == 0
		case 8:
			right = ahead(n.A) && n.B == 0 && 0 <= n.N && n.N <= 8
		}
		if !right || slices.Contains(p.Steps[:i], n) {
			return false
		}
	}
	return true
}

// checkTapeRight wants of a tape that it is right or not, and ErrBad alone of each call if it is not; it is alike to its copy in any case.
func checkTapeRight(t *testing.T, p impl.Tape, want bool) {
	t.Helper()
	if got := impl.TapeOK(p); got != want {
		t.Errorf("TapeOK(%s) = %v", briefTape(p), got)
	}
	if due := dueTapeRight(p); due != want {
		t.Errorf("%s: due is %v, not %v", briefTape(p), due, want)
	}
	for name, call := range tapeCalls() {
		got := call(p, vecOfInts(2, 3, 5, 7))
		if want && got.code == impl.ErrBad || !want && !got.zeroBut(impl.ErrBad) {
			t.Errorf("%s(%s) = %s; right is %v", name, briefTape(p), got, want)
		}
	}
	if !impl.SameTape(p, impl.Tape{Steps: slices.Clone(p.Steps), Out: p.Out}) {
		t.Errorf("SameTape of %s and its copy = false", briefTape(p))
	}
}

func TestTapeOKOfOneStep(t *testing.T) {
	for _, n := range odd() {
		for op := -1; op <= 10; op++ {
			checkTapeRight(t, tapeOf(impl.Node{Op: op, N: n}), op == 1 && n >= 0 && n <= 999999999 || op == 2 && n >= 0 && n <= 3)
			checkTapeRight(t, tapeOf(impl.Node{Op: op, A: n}), (op == 1 || op == 2) && n == 0)
			checkTapeRight(t, tapeOf(impl.Node{Op: op, B: n}), (op == 1 || op == 2) && n == 0)
		}
		checkTapeRight(t, tapeOf(impl.Node{Op: n}), n == 1 || n == 2)
		checkTapeRight(t, impl.Tape{Steps: []impl.Node{stepVar(1)}, Out: n}, n == 0)
		checkTapeRight(t, impl.Tape{Out: n}, false)
		checkTapeRight(t, impl.Tape{Steps: []impl.Node{}, Out: n}, false)
	}
}

func TestTapeOKOfOut(t *testing.T) {
	noise := rand.New(rand.NewSource(74))
	for count := 1; count <= impl.MaxNodes; count++ {
		steps := noisyTape(noise, count).Steps
		for out := -2; out <= impl.MaxNodes+1; out++ {
			checkTapeRight(t, impl.Tape{Steps: steps, Out: out}, out == count-1)
		}
		for _, out := range odd() {
			checkTapeRight(t, impl.Tape{Steps: steps, Out: out}, out == count-1)
		}
	}
}

// A child is right wherever it is ahead, and nowhere else.
func TestTapeOKOfChildren(t *testing.T) {
	leaves := []impl.Node{stepVar(0), stepVar(1), stepConst(0), stepConst(5), stepVar(2)}
	children := append([]int{6}, odd()...)
	for _, a := range children {
		ahead := a >= 0 && a < len(leaves)
		with := func(n impl.Node) impl.Tape { return tapeOf(append(slices.Clone(leaves), n)...) }
		for _, b := range children {
			for op := 3; op <= 6; op++ {
				checkTapeRight(t, with(stepTwo(op, a, b)), ahead && b >= 0 && b < len(leaves))
			}
			checkTapeRight(t, with(impl.Node{Op: impl.OpNeg, A: a, B: b}), ahead && b == 0)
			checkTapeRight(t, with(impl.Node{Op: impl.OpPow, A: a, B: b, N: 3}), ahead && b == 0)
			checkTapeRight(t, with(stepPow(a, b)), ahead && b >= 0 && b <= 8)
			checkTapeRight(t, with(impl.Node{Op: impl.OpMul, A: 1, B: a, N: b}), ahead && b == 0)
			checkTapeRight(t, with(impl.Node{Op: impl.OpNeg, A: a, N: b}), ahead && b == 0)
		}
		// The step at fault is not the last one.
		checkTapeRight(t, tapeOf(stepVar(0), stepNeg(a), stepVar(1)), a == 0)
		checkTapeRight(t, tapeOf(stepVar(0), stepTwo(impl.OpSub, 0, a), stepVar(1), stepTwo(impl.OpAdd, 1, 2)), a == 0)
	}
}

func TestTapeOKOfStepsThatAreAlike(t *testing.T) {
	noise := rand.New(rand.NewSource(75))
	for count := 1; count < impl.MaxNodes; count++ {
		steps := noisyTape(noise, count).Steps
		for i, n := range steps {
			checkTapeRight(t, tapeOf(append(slices.Clone(steps), n)...), false)
			if i+1 < count {
				checkTapeRight(t, tapeOf(slices.Insert(slices.Clone(steps), i+1, n)...), false)
			}
		}
		checkTapeRight(t, tapeOf(steps...), true)
	}
	for _, steps := range [][]impl.Node{
		{stepVar(0), stepVar(0)},
		{stepConst(1), stepVar(0), stepConst(1)},
		{stepVar(0), stepNeg(0), stepNeg(0)},
		{stepVar(0), stepPow(0, 2), stepPow(0, 2)},
		{stepVar(0), stepVar(1), stepTwo(impl.OpAdd, 0, 1), stepTwo(impl.OpSub, 0, 1), stepTwo(impl.OpAdd, 0, 1)},
		{stepVar(0), stepVar(0), stepTwo(impl.OpAdd, 0, 1)},
	} {
		checkTapeRight(t, tapeOf(steps...), false)
	}
	// Out may be the last place of those that differ: it is not the last step, or the steps are alike all the same.
	for _, count := range []int{1, 2, 5, 30} {
		steps := noisyTape(noise, count).Steps
		twice := slices.Concat(steps, steps)
		for out := -1; out <= 2*count; out++ {
			checkTapeRight(t, impl.Tape{Steps: twice, Out: out}, false)
			checkTapeRight(t, impl.Tape{Steps: twice[:count+1], Out: out}, false)
		}
	}
	// These differ in one number alone.
	checkTapeRight(t, tapeOf(stepConst(1), stepVar(1), stepConst(2), stepVar(2), stepNeg(0), stepNeg(1), stepPow(0, 1), stepPow(0, 2), stepPow(1, 2),
		stepTwo(impl.OpAdd, 0, 1), stepTwo(impl.OpAdd, 1, 0), stepTwo(impl.OpAdd, 1, 1), stepTwo(impl.OpSub, 0, 1), stepTwo(impl.OpMul, 0, 1), stepTwo(impl.OpDiv, 0, 1)), true)
}

func TestMostStepsAndOneMore(t *testing.T) {
	noise := rand.New(rand.NewSource(76))
	var consts []impl.Node
	for n := range 3 * impl.MaxList {
		consts = append(consts, stepConst(n))
	}
	for _, count := range []int{1, 2, 59, 60, 61, 62, 120, impl.MaxList, impl.MaxList + 1, 3 * impl.MaxList} {
		checkTapeRight(t, tapeOf(consts[:count]...), count <= impl.MaxNodes)
	}
	for range 50 {
		checkTapeRight(t, noisyTape(noise, impl.MaxNodes), true)
		checkTapeRight(t, noisyTape(noise, impl.MaxNodes+1), false)
	}
}

// One number of a right tape is another one.
func TestTapeOKOfBentTapes(t *testing.T) {
	noise := rand.New(rand.NewSource(77))
	seen := map[bool]int{}
	for i := range 1500 {
		p := noisyTape(noise, 1+i%impl.MaxNodes)
		for range 12 {
			bent := impl.Tape{Steps: slices.Clone(p.Steps), Out: p.Out}
			n := &bent.Steps[noise.Intn(len(bent.Steps))]
			field := []*int{&n.Op, &n.A, &n.B, &n.N, &bent.Out}[noise.Intn(5)]
			*field = []int{*field - 1, *field + 1, 1 + noise.Intn(8), noise.Intn(len(bent.Steps)), odd()[noise.Intn(len(odd()))]}[noise.Intn(5)]
			right := dueTapeRight(bent)
			seen[right]++
			checkTapeRight(t, bent, right)
			if changed := !slices.Equal(bent.Steps, p.Steps) || bent.Out != p.Out; impl.SameTape(p, bent) == changed || impl.SameTape(bent, p) == changed {
				t.Errorf("SameTape of %s and %s = %v", briefTape(p), briefTape(bent), !changed)
			}
		}
	}
	if seen[true] < 1000 || seen[false] < 1000 {
		t.Errorf("right and not right: %v", seen)
	}
}

// All is alike, or they are not the same; that they are right is not asked.
func TestSameTape(t *testing.T) {
	list := oddTapes()
	for i, p := range list {
		for j, q := range list {
			want := p.Out == q.Out && len(p.Steps) == len(q.Steps)
			for k := range p.Steps {
				want = want && p.Steps[k] == q.Steps[k]
			}
			if got := impl.SameTape(p, q); got != want || i == j && !got {
				t.Errorf("SameTape of %s and %s = %v", briefTape(p), briefTape(q), got)
			}
		}
		for out := range 3 {
			if impl.SameTape(p, impl.Tape{Steps: p.Steps, Out: p.Out + 1 + out}) {
				t.Errorf("SameTape of %s and one with another Out = true", briefTape(p))
			}
		}
		longer := impl.Tape{Steps: append(slices.Clone(p.Steps), stepVar(3)), Out: p.Out}
		if impl.SameTape(p, longer) || impl.SameTape(longer, p) {
			t.Errorf("SameTape of %s and a longer one = true", briefTape(p))
		}
	}
	if !impl.SameTape(impl.Tape{}, impl.Tape{Steps: []impl.Node{}}) || !impl.SameTape(impl.Tape{Steps: []impl.Node{}, Out: 4}, impl.Tape{Out: 4}) {
		t.Error("SameTape of no steps, nil and empty = false")
	}
}

// Compile takes what ExprOK takes: tapes are other nodes than expressions.
func TestCompileOfWhatIsNotRight(t *testing.T) {
	for _, e := range slices.Concat(oddExprs(), sampleExprs()) {
		right, _ := dueRight(e.Nodes)
		if got := compiled(e); right && got.code != impl.OK || !right && !got.zeroBut(impl.ErrBad) {
			t.Errorf("Compile(%s) = %s; right is %v", briefNodes(e.Nodes), got, right)
		}
	}
	noise := rand.New(rand.NewSource(78))
	refused := 0
	for i := range 1000 {
		steps := noisyTape(noise, 2+i%20).Steps
		right, _ := dueRight(steps)
		if got := compiled(impl.Expr{Nodes: steps}); !right && !got.zeroBut(impl.ErrBad) || right && got.code != impl.OK {
			t.Errorf("Compile(%s) = %s; right is %v", briefNodes(steps), got, right)
		}
		if !right {
			refused++
		}
	}
	if got := compiled(impl.Expr{Nodes: []impl.Node{stepVar(0), stepTwo(impl.OpAdd, 0, 0)}}); !got.zeroBut(impl.ErrBad) || refused < 500 {
		t.Errorf("Compile of a tape's steps = %s; %d were not right", got, refused)
	}
}

// oddTapes has right ones that ask for none to all of the variables, and ones that are not right.
func oddTapes() []impl.Tape {
	list := []impl.Tape{tapeOf(stepConst(7)), tapeOf(stepConst(7), stepNeg(0)), tapeOf(stepConst(0), stepTwo(impl.OpDiv, 0, 0))}
	for n := range impl.MaxDim {
		list = append(list, tapeOf(stepVar(n)), tapeOf(stepVar(n), stepConst(n), stepTwo(impl.OpAdd, 0, 1)))
	}
	list = append(list, tapeOf(stepVar(2), stepConst(1)), tapeOf(stepConst(1), stepVar(1), stepNeg(0)))
	for _, steps := range [][]impl.Node{
		nil, {{}}, {{Op: 9}}, {stepVar(0), stepVar(0)}, {stepVar(4)}, {stepConst(-1)}, {stepNeg(0)}, {stepVar(0), stepNeg(1)}, {stepVar(0), stepNeg(-1)},
		slices.Repeat([]impl.Node{stepVar(1)}, impl.MaxList), slices.Repeat([]impl.Node{stepVar(1)}, impl.MaxList+1),
	} {
		list = append(list, tapeOf(steps...))
	}
	return append(list, impl.Tape{Steps: []impl.Node{stepVar(0), stepNeg(0)}}, impl.Tape{Steps: []impl.Node{stepVar(3)}, Out: -1}, impl.Tape{})
}

// dueTapePlace is told by the rules ahead of the steps; how long x must be is told by all steps, also by those that none uses.
func dueTapePlace(p impl.Tape, x []impl.Rat) int {
	switch {
	case len(x) > impl.MaxList:
		return impl.ErrLong
	case !dueTapeRight(p) || len(x) < 1 || len(x) > impl.MaxDim || slices.ContainsFunc(x, func(r impl.Rat) bool { return !impl.RatOK(r) }):
		return impl.ErrBad
	case slices.ContainsFunc(p.Steps, func(n impl.Node) bool { return n.Op == impl.OpVar && n.N >= len(x) }):
		return impl.ErrSize
	}
	return impl.OK
}

func TestRunTapeCodesInOrder(t *testing.T) {
	seen := map[int]int{}
	for _, p := range oddTapes() {
		for _, x := range oddVecs() {
			due := dueTapePlace(p, x)
			seen[due]++
			if due == impl.OK {
				checkRun(t, p, x)
			} else if got := ofVec(impl.RunTape(p, x)); !got.zeroBut(due) {
				t.Errorf("RunTape of %s at %s = %s; want code %d alone", briefTape(p), briefVec(x), got, due)
			}
		}
	}
	for _, code := range []int{impl.OK, impl.ErrLong, impl.ErrBad, impl.ErrSize} {
		if seen[code] < 10 {
			t.Errorf("codes that were due: %v", seen)
		}
	}
}

// Each line has two faults, the one that comes first named ahead.
func TestRunTapeCodesByName(t *testing.T) {
	bad, wide := tapeOf(stepVar(1), stepVar(1)), tapeOf(stepConst(0), stepTwo(impl.OpDiv, 0, 0), stepVar(1))
	long := ratsAlike(ratOfInts(1, 2), impl.MaxList+1)
	for name, c := range map[string]struct {
		p    impl.Tape
		x    []impl.Rat
		code int
	}{
		"long x, bad p":           {bad, long, impl.ErrLong},
		"long x of bad ones":      {wide, ratsAlike(impl.Rat{}, impl.MaxList+1), impl.ErrLong},
		"x of MaxList":            {wide, long[1:], impl.ErrBad},
		"bad p, x of none":        {bad, nil, impl.ErrBad},
		"bad p, x too short":      {bad, vecOfInts(1), impl.ErrBad},
		"bad p, x right":          {bad, vecOfInts(1, 2), impl.ErrBad},
		"bad x, too short":        {wide, []impl.Rat{{}}, impl.ErrBad},
		"x of none, too short":    {wide, nil, impl.ErrBad},
		"bad x, over 0":           {wide, []impl.Rat{ratOfInts(1, 1), {}}, impl.ErrBad},
		"x of five, over 0":       {wide, vecOfInts(1, 2, 3, 4, 5), impl.ErrBad},
		"x too short, over 0":     {wide, vecOfInts(1), impl.ErrSize},
		"over 0":                  {wide, vecOfInts(1, 2), impl.ErrDomain},
		"over 0, x longer":        {wide, vecOfInts(1, 2, 3, 4), impl.ErrDomain},
		"steps too many, x short": {tapeOf(slices.Repeat([]impl.Node{stepVar(3)}, 61)...), vecOfInts(1), impl.ErrBad},
	} {
		if got := ofVec(impl.RunTape(c.p, c.x)); !got.zeroBut(c.code) {
			t.Errorf("%s: RunTape = %s; want code %d alone", name, got, c.code)
		}
	}
}

// The greatest variable tells how long x must be, wherever it stands.
func TestRunTapeAtLengthsOfX(t *testing.T) {
	all := vecOfInts(2, 3, 5, 7)
	for dim := range impl.MaxDim {
		var up []impl.Node
		for n := range dim + 1 {
			up = append(up, stepVar(n))
		}
		down := slices.Clone(up)
		slices.Reverse(down)
		for _, p := range []impl.Tape{
			tapeOf(stepVar(dim)), tapeOf(stepVar(dim), stepPow(0, 2)), tapeOf(stepVar(dim), stepConst(4)), tapeOf(stepConst(9), stepVar(dim), stepNeg(0)),
			tapeOf(up...), tapeOf(down...), tapeOf(append(down, stepTwo(impl.OpAdd, dim, dim))...),
		} {
			for length := 1; length <= impl.MaxDim; length++ {
				got := ofVec(impl.RunTape(p, all[:length]))
				if length <= dim && !got.zeroBut(impl.ErrSize) || length > dim && (got.code != impl.OK || len(got.vec) != len(p.Steps)) {
					t.Errorf("RunTape of %s at %d numbers = %s", briefTape(p), length, got)
				}
			}
		}
	}
	for length := 1; length <= impl.MaxDim; length++ {
		if code := checkRun(t, tapeOf(stepConst(4), stepNeg(0)), all[:length]); code != impl.OK {
			t.Errorf("RunTape without variables at %d numbers: code %d", length, code)
		}
	}
}

// sampleTapes has right tapes with points, with codes and without, and ones that are not right.
func sampleTapes() (list []impl.Tape, points [][]impl.Rat) {
	noise := rand.New(rand.NewSource(79))
	for i := range 60 {
		p, _ := impl.Compile(tameTwig(noise, 1+i%20, 1+i%6).expr())
		list = append(list, p, noisyTape(noise, 1+i))
		points = append(points, smallVec(noise, impl.MaxDim), noisyVec(noise, impl.MaxDim))
	}
	for n := range impl.MaxDim {
		list, points = append(list, tapeOf(stepVar(n))), append(points, noisyVec(noise, n+1))
	}
	for i, p := range oddTapes() {
		list = append(list, p, p)
		points = append(points, oddVecs()[i%len(oddVecs())], oddVecs()[i%4])
	}
	return list, points
}

func spoilLines(lines []string) {
	room := lines[:cap(lines)]
	for i := range room {
		room[i] = "spoilt"
	}
}

func TestTapesAndAnswersStayApart(t *testing.T) {
	list, points := sampleTapes()
	for i, p := range list {
		for name, call := range tapeCalls() {
			given, x := impl.Tape{Steps: spareNodes(p.Steps), Out: p.Out}, spareVec(points[i])
			got := call(given, x)
			said := got.String()
			if spoilAll(got.memory()) {
				t.Errorf("%s of %s: the lists of one answer share memory", name, briefTape(p))
			}
			spoilVec(got.vec)
			spoilLines(got.lines)
			if !untouchedNodes(given.Steps, p.Steps) || !untouchedVec(x, points[i]) {
				t.Errorf("%s of %s: an argument changed, or is shared with the answer", name, briefTape(p))
			}
			if again := call(p, points[i]).String(); again != said {
				t.Errorf("%s of %s = %s, then %s", name, briefTape(p), said, again)
			}
		}
		first, second := impl.Tape{Steps: spareNodes(p.Steps), Out: p.Out}, impl.Tape{Steps: spareNodes(p.Steps), Out: p.Out}
		if right := impl.TapeOK(first); !impl.SameTape(first, second) || !impl.SameTape(first, first) || right != impl.TapeOK(p) || !untouchedNodes(first.Steps, p.Steps) || !untouchedNodes(second.Steps, p.Steps) {
			t.Errorf("TapeOK and SameTape of %s: %v, or it changed", briefTape(p), right)
		}
	}
}

// An expression without anything that is there already has its own nodes for steps, but not their memory.
func TestCompileAnswersNewMemory(t *testing.T) {
	for _, e := range slices.Concat(sampleExprs(), oddExprs()) {
		given := impl.Expr{Nodes: spareNodes(e.Nodes)}
		got, other := compiled(given), compiled(given)
		said := got.String()
		spoilNodes(got.nodes)
		if !untouchedNodes(given.Nodes, e.Nodes) {
			t.Errorf("Compile(%s): its argument changed, or is shared with the answer", briefNodes(e.Nodes))
		}
		if other.String() != said || compiled(e).String() != said {
			t.Errorf("Compile(%s) = %s, others are %s and %s", briefNodes(e.Nodes), said, other, compiled(e))
		}
	}
}

func TestTapeAnswersDoNotHangOnEarlierCalls(t *testing.T) {
	list, points := sampleTapes()
	exprs := slices.Concat(sampleExprs(), oddExprs())
	checkAnyOrder(t, len(list), func(i int, told map[string]string) {
		for name, call := range tapeCalls() {
			told[fmt.Sprint(name, i)] = call(list[i], points[i]).String()
		}
		told[fmt.Sprint("Compile", i)] = compiled(exprs[i%len(exprs)]).String()
		told[fmt.Sprint("right and same", i)] = fmt.Sprint(impl.TapeOK(list[i]), impl.SameTape(list[i], list[(i+1)%len(list)]))
	})
}

func TestTapesWithEmptyAndNilAreAlike(t *testing.T) {
	bare, empty := []impl.Rat{{Den: []int{1}}, ratOfInts(1, 3)}, []impl.Rat{{Num: []int{}, Den: []int{1}}, ratOfInts(1, 3)}
	for _, p := range oddTapes() {
		if x, y := ofVec(impl.RunTape(p, bare)).String(), ofVec(impl.RunTape(p, empty)).String(); x != y {
			t.Errorf("RunTape of %s at nil: %s, at empty lists: %s", briefTape(p), x, y)
		}
		for _, x := range [][]impl.Rat{nil, {}} {
			if got := ofVec(impl.RunTape(p, x)); !got.zeroBut(impl.ErrBad) {
				t.Errorf("RunTape of %s at no number = %s; want ErrBad alone", briefTape(p), got)
			}
		}
	}
	for _, out := range []int{-1, 0} {
		checkTapeRight(t, impl.Tape{Out: out}, false)
		checkTapeRight(t, impl.Tape{Steps: []impl.Node{}, Out: out}, false)
	}
	for _, e := range []impl.Expr{{}, {Nodes: []impl.Node{}}} {
		if got := compiled(e); !got.zeroBut(impl.ErrBad) {
			t.Errorf("Compile of no nodes = %s; want ErrBad alone", got)
		}
	}
}
