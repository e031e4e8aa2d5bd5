package tests

import (
	"fmt"
	"math/big"
	"math/rand"
	"slices"
	"strings"
	"testing"

	"loop.example/g00615/impl"
)

// tapeOf has the last step for its answer.
func tapeOf(steps ...impl.Node) impl.Tape {
	return impl.Tape{Steps: steps, Out: len(steps) - 1}
}

func stepConst(n int) impl.Node      { return impl.Node{Op: impl.OpConst, N: n} }
func stepVar(n int) impl.Node        { return impl.Node{Op: impl.OpVar, N: n} }
func stepNeg(a int) impl.Node        { return impl.Node{Op: impl.OpNeg, A: a} }
func stepPow(a, n int) impl.Node     { return impl.Node{Op: impl.OpPow, A: a, N: n} }
func stepTwo(op, a, b int) impl.Node { return impl.Node{Op: op, A: a, B: b} }

// key tells two trees apart by all that is in them.
func (w *twig) key() string {
	text := fmt.Sprint("(", w.op, " ", w.n)
	for _, part := range w.parts {
		text += part.key()
	}
	return text + ")"
}

// dueSteps has a step of each tree that is not there already, told apart by their keys; it answers the tree's own place.
func (w *twig) dueSteps(keys *[]string, steps *[]impl.Node) int {
	places := []int{}
	for _, part := range w.parts {
		places = append(places, part.dueSteps(keys, steps))
	}
	if i := slices.Index(*keys, w.key()); i >= 0 {
		return i
	}
	places = append(places, 0, 0)
	*keys = append(*keys, w.key())
	*steps = append(*steps, impl.Node{Op: w.op, A: places[0], B: places[1], N: w.n})
	return len(*steps) - 1
}

func (w *twig) dueTape() impl.Tape {
	var keys []string
	var p impl.Tape
	p.Out = w.dueSteps(&keys, &p.Steps)
	return p
}

// dueLines is told by what each kind of step has, without the program.
func dueLines(steps []impl.Node) []string {
	var lines []string
	for i, n := range steps {
		forms := []string{"", "const %[3]d", "var %[3]d", "add %[1]d %[2]d", "sub %[1]d %[2]d", "mul %[1]d %[2]d", "div %[1]d %[2]d", "neg %[1]d", "pow %[1]d %[3]d"}
		line, _, _ := strings.Cut(fmt.Sprintf(forms[n.Op]+"|%[1]d%[2]d%[3]d", n.A, n.B, n.N), "|")
		lines = append(lines, fmt.Sprint(i, " ", line))
	}
	return lines
}

// dueRun goes step by step, so that the first one without a right value gives the code.
func dueRun(steps []impl.Node, x []impl.Rat) ([]*big.Rat, int) {
	values := valuesAt{x, map[*form]*big.Rat{}}
	var list []*big.Rat
	for _, f := range formsOf(steps) {
		switch q := values.of(f); {
		case q == nil:
			return nil, impl.ErrDomain
		case tooLong(ratOfBig(q)):
			return nil, impl.ErrFull
		default:
			list = append(list, q)
		}
	}
	return list, impl.OK
}

func briefTape(p impl.Tape) string {
	return fmt.Sprint(briefNodes(p.Steps), " out ", p.Out)
}

// checkRun wants of a right tape the value of each step, or the code that is due, and tells the code.
func checkRun(t *testing.T, p impl.Tape, x []impl.Rat) int {
	t.Helper()
	want, code := dueRun(p.Steps, x)
	got := ofVec(impl.RunTape(p, x))
	if code != impl.OK {
		if !got.zeroBut(code) {
			t.Errorf("RunTape of %s at %s = %s; want code %d alone", briefTape(p), briefVec(x), got, code)
		}
		return code
	}
	var list []impl.Rat
	for _, q := range want {
		list = append(list, ratOfBig(q))
	}
	if got.code != impl.OK || !sameVec(got.vec, list) {
		t.Errorf("RunTape of %s at %s = %s; want %s", briefTape(p), briefVec(x), got, told(list))
	}
	return code
}

// checkTape wants of a right tape that each call takes it as one.
func checkTape(t *testing.T, p impl.Tape) {
	t.Helper()
	if !impl.TapeOK(p) {
		t.Errorf("TapeOK of %s = false", briefTape(p))
	}
	if lines, code := impl.TapeText(p); code != impl.OK || !slices.Equal(lines, dueLines(p.Steps)) {
		t.Errorf("TapeText of %s = %q, %d; want %q", briefTape(p), lines, code, dueLines(p.Steps))
	}
	if !impl.SameTape(p, impl.Tape{Steps: slices.Clone(p.Steps), Out: p.Out}) {
		t.Errorf("SameTape of %s and its copy = false", briefTape(p))
	}
}

// checkCompiled wants the steps that are due, no two alike, and the answer that the expression has, whatever the code is.
func checkCompiled(t *testing.T, w *twig, points ...[]impl.Rat) (impl.Tape, []int) {
	t.Helper()
	e, want := w.expr(), w.dueTape()
	p, code := impl.Compile(e)
	if code != impl.OK || p.Out != want.Out || !slices.Equal(p.Steps, want.Steps) {
		t.Errorf("Compile(%s) = %s, %d; want %s", w.text(), briefTape(p), code, briefTape(want))
		return p, nil
	}
	checkTape(t, p)
	for i, n := range p.Steps {
		if slices.Contains(p.Steps[:i], n) {
			t.Errorf("Compile(%s): step %d is there twice", w.text(), i)
		}
	}
	var codes []int
	for _, x := range points {
		codes = append(codes, checkRun(t, p, x))
		value, valueCode := impl.ValueOf(e, x)
		run, runCode := impl.RunTape(p, x)
		if valueCode != runCode || runCode == impl.OK && !sameRat(run[p.Out], value) {
			t.Errorf("%s at %s: its tape answers %v, %d; it means %v, %d", w.text(), briefVec(x), run, runCode, value, valueCode)
		}
	}
	return p, codes
}

func TestCompileUsesStepsAgain(t *testing.T) {
	for text, want := range map[string]string{
		"5":                           "0 const 5",
		"x3":                          "0 var 3",
		"-x0":                         "0 var 0|1 neg 0",
		"x0 + x0":                     "0 var 0|1 add 0 0",
		"x0 - x0":                     "0 var 0|1 sub 0 0",
		"0 * 0":                       "0 const 0|1 mul 0 0",
		"x0 / x0 / x0":                "0 var 0|1 div 0 0|2 div 1 0",
		"0 + x0":                      "0 const 0|1 var 0|2 add 0 1",
		"1 + x1":                      "0 const 1|1 var 1|2 add 0 1",
		"x0 + x1 - (x1 + x0)":         "0 var 0|1 var 1|2 add 0 1|3 add 1 0|4 sub 2 3",
		"x0 + x1 - (x0 + x1)":         "0 var 0|1 var 1|2 add 0 1|3 sub 2 2",
		"x0 + x1 - (x0 - x1)":         "0 var 0|1 var 1|2 add 0 1|3 sub 0 1|4 sub 2 3",
		"x0^2 + x0^3 + x0^2":          "0 var 0|1 pow 0 2|2 pow 0 3|3 add 1 2|4 add 3 1",
		"x0^0 + x0^1 + -x0":           "0 var 0|1 pow 0 0|2 pow 0 1|3 add 1 2|4 neg 0|5 add 3 4",
		"--x0 + -x0":                  "0 var 0|1 neg 0|2 neg 1|3 add 2 1",
		"-x0 + --x0":                  "0 var 0|1 neg 0|2 neg 1|3 add 1 2",
		"x0 * x1 * (x0 * x1)^2":       "0 var 0|1 var 1|2 mul 0 1|3 pow 2 2|4 mul 2 3",
		"1 + (2 + 1) + (2 + 1)":       "0 const 1|1 const 2|2 add 1 0|3 add 0 2|4 add 3 2",
		"(x0 + 1) * (x0 + 1) - x0":    "0 var 0|1 const 1|2 add 0 1|3 mul 2 2|4 sub 3 0",
		"x0 + x1 + (x0 + x1 + x0)":    "0 var 0|1 var 1|2 add 0 1|3 add 2 0|4 add 2 3",
		"(x2 + 8)^8 * (x2 + 8) + -8":  "0 var 2|1 const 8|2 add 0 1|3 pow 2 8|4 mul 3 2|5 neg 1|6 add 4 5",
		"(x0 - 3)^2 + 2 * (x1 + 1)^2": "0 var 0|1 const 3|2 sub 0 1|3 pow 2 2|4 const 2|5 var 1|6 const 1|7 add 5 6|8 pow 7 2|9 mul 4 8|10 add 3 9",
	} {
		p, code := impl.Compile(exprOf(t, text))
		lines, textCode := impl.TapeText(p)
		if got := strings.Join(lines, "|"); got != want || max(code, textCode) != impl.OK || p.Out != strings.Count(want, "|") {
			t.Errorf("Compile(%q) = %s, out %d, codes %d, %d; want %s", text, got, p.Out, code, textCode, want)
		}
	}
}

// One step is a child of several, and twice of one.
func TestRunTapeOfStepsThatAreUsedAgain(t *testing.T) {
	for _, c := range []struct{ text, x, want string }{
		{"7", "1/2", "7"},
		{"x1", "1/2 -3", "-3"},
		{"x0 + x0", "-2/3", "-2/3 -4/3"},
		{"x0 - x0", "5", "5 0"},
		{"x0 * x0", "-2/3", "-2/3 4/9"},
		{"x0 / x0", "-2/3", "-2/3 1"},
		{"(x0 + x1) * (x0 + x1) - (x0 + x1)", "1 2", "1 2 3 9 6"},
		{"x0^0 + 0^0", "0", "0 1 0 1 2"},
		{"-x0 * -x0 / -x0", "3", "3 -3 9 -3"},
		{"x0^8 - (x0^4)^2", "-3/2", "-3/2 6561/256 81/16 6561/256 0"},
		{"(x0 - 3)^2 + 2 * (x1 + 1)^2", "0 0", "0 3 -3 9 2 0 1 1 1 2 11"},
	} {
		p, code := impl.Compile(exprOf(t, c.text))
		values, runCode := impl.RunTape(p, vecOf(t, c.x))
		if max(code, runCode) != impl.OK || told(values) != c.want {
			t.Errorf("RunTape of %s at %s = %s, codes %d, %d; want %s", c.text, c.x, told(values), code, runCode, c.want)
		}
	}
}

// Within 60 nodes of two kinds of leaf nearly all steps are there already; of leaves of which no two are alike none is.
func TestCompileOfTheMostNodes(t *testing.T) {
	var leaves func(from, count int) *twig
	leaves = func(from, count int) *twig {
		if count == 1 {
			return leafConst(from)
		}
		return twigOf(3, leaves(from, count/2), leaves(from+count/2, count-count/2))
	}
	p, _ := checkCompiled(t, negOf(leaves(1, 30)), vecOfInts(1))
	if len(p.Steps) != impl.MaxNodes {
		t.Errorf("%d steps of 60 nodes of which no two are alike", len(p.Steps))
	}
	p, _ = checkCompiled(t, leaves(1, 30), vecOfInts(1))
	if len(p.Steps) != impl.MaxNodes-1 {
		t.Errorf("%d steps of 59 nodes of which no two are alike", len(p.Steps))
	}
	for count := 1; count <= impl.MaxNodes; count++ {
		checkCompiled(t, evenTwig(count), vecOfInts(2, 3), vecOfInts(0, 0))
	}
	double := leafVar(0)
	for range 4 {
		double = twigOf(3, double, double)
	}
	p, _ = checkCompiled(t, double, vecOfInts(3))
	if values, _ := impl.RunTape(p, vecOfInts(3)); told(values) != "3 6 12 24 48" {
		t.Errorf("RunTape of what is doubled = %s", told(values))
	}
}

// The last node is the whole, which no part of it is: it has the last step, also where its last child is there already.
func TestCompileHasTheWholeForItsAnswer(t *testing.T) {
	noise := rand.New(rand.NewSource(71))
	for i := range 400 {
		part := tameTwig(noise, 1+i%19, 1+i%8)
		for _, whole := range []*twig{twigOf(3+i%4, part, part), negOf(part), powOf(part, i%9), twigOf(3, negOf(part), part), twigOf(4, twigOf(5, part, part), part)} {
			p, code := impl.Compile(whole.expr())
			alone, aloneCode := impl.Compile(part.expr())
			if max(code, aloneCode) != impl.OK || p.Out != len(p.Steps)-1 || p.Steps[p.Out].Op != whole.op || !slices.Equal(p.Steps[:len(alone.Steps)], alone.Steps) {
				t.Errorf("Compile(%s) = %s, codes %d, %d", whole.text(), briefTape(p), code, aloneCode)
			}
		}
		p, _ := impl.Compile(twigOf(3+i%4, part, part).expr())
		alone, _ := impl.Compile(part.expr())
		if len(p.Steps) != len(alone.Steps)+1 || p.Steps[p.Out] != stepTwo(3+i%4, alone.Out, alone.Out) {
			t.Errorf("Compile of %s twice = %s", part.text(), briefTape(p))
		}
	}
}

func TestTapesMeanWhatTheirExpressionsMean(t *testing.T) {
	noise := rand.New(rand.NewSource(72))
	seen, shorter := map[int]int{}, 0
	for i := range 3000 {
		w := tameTwig(noise, 1+i%impl.MaxNodes, 1+i%impl.MaxDeep)
		if i%3 == 0 {
			w = grownTwig(noise, 1+i%impl.MaxNodes, 1+i%impl.MaxDeep)
		}
		length := max(1, w.axes(), noise.Intn(impl.MaxDim+1))
		p, codes := checkCompiled(t, w, smallVec(noise, length), noisyVec(noise, length))
		for _, code := range codes {
			seen[code]++
		}
		if len(p.Steps) < w.count() {
			shorter++
		}
	}
	if seen[impl.OK] < 500 || seen[impl.ErrDomain] < 500 || seen[impl.ErrFull] < 500 || shorter < 1000 {
		t.Errorf("codes %v; %d have fewer steps than nodes", seen, shorter)
	}
}

// noisyTape has steps over any steps ahead, so that some of them are used often, and some never.
func noisyTape(noise *rand.Rand, count int) impl.Tape {
	var steps []impl.Node
	for len(steps) < count {
		next := stepVar(noise.Intn(4))
		if noise.Intn(2) == 0 {
			next = stepConst(noise.Intn(9))
		}
		if ahead := len(steps); ahead > 0 && noise.Intn(4) > 0 {
			a, b := noise.Intn(ahead), noise.Intn(ahead)
			next = []impl.Node{stepTwo(3+noise.Intn(4), a, b), stepTwo(3+noise.Intn(2), a, b), stepNeg(a), stepPow(a, noise.Intn(9))}[noise.Intn(4)]
		}
		if !slices.Contains(steps, next) {
			steps = append(steps, next)
		}
	}
	return tapeOf(steps...)
}

func TestTapesOverAnyStepsAhead(t *testing.T) {
	noise := rand.New(rand.NewSource(73))
	seen := map[int]int{}
	for i := range 3000 {
		p := noisyTape(noise, 1+i%impl.MaxNodes)
		checkTape(t, p)
		seen[checkRun(t, p, smallVec(noise, impl.MaxDim))]++
		seen[checkRun(t, p, noisyVec(noise, impl.MaxDim))]++
	}
	if seen[impl.OK] < 300 || seen[impl.ErrDomain] < 300 || seen[impl.ErrFull] < 300 {
		t.Errorf("codes %v", seen)
	}
}

// What no step uses has a value all the same, and a code.
func TestRunTapeOfStepsThatNoneUses(t *testing.T) {
	for _, c := range []struct {
		p    impl.Tape
		x    string
		want string
		code int
	}{
		{tapeOf(stepVar(0), stepConst(3)), "5", "5 3", impl.OK},
		{tapeOf(stepVar(0), stepConst(3), stepNeg(0)), "5", "5 3 -5", impl.OK},
		{tapeOf(stepVar(0), stepConst(3), stepTwo(impl.OpSub, 1, 0), stepTwo(impl.OpSub, 0, 1)), "5", "5 3 -2 2", impl.OK},
		{tapeOf(stepConst(0), stepTwo(impl.OpDiv, 0, 0), stepConst(1)), "5", "", impl.ErrDomain},
		{tapeOf(stepVar(0), stepPow(0, 8), stepConst(1)), "1e20", "", impl.ErrFull},
		{tapeOf(stepVar(1), stepConst(1)), "5", "", impl.ErrSize},
		{tapeOf(stepVar(1), stepConst(1)), "5 6", "6 1", impl.OK},
	} {
		checkTape(t, c.p)
		if values, code := impl.RunTape(c.p, vecOf(t, c.x)); code != c.code || told(values) != c.want {
			t.Errorf("RunTape of %s at %s = %s, %d; want %s, %d", briefTape(c.p), c.x, told(values), code, c.want, c.code)
		}
	}
}

// No depth is told of tapes: 60 steps may stand over one another.
func TestDeepTapes(t *testing.T) {
	negs, ones, sums := []impl.Node{stepVar(0)}, []impl.Node{stepVar(0)}, []impl.Node{stepVar(0)}
	for i := range impl.MaxNodes - 1 {
		negs, ones, sums = append(negs, stepNeg(i)), append(ones, stepPow(i, 1)), append(sums, stepTwo(impl.OpAdd, i, i))
		for _, steps := range [][]impl.Node{negs, ones, sums} {
			checkTape(t, tapeOf(steps...))
			if code := checkRun(t, tapeOf(steps...), vecOf(t, "2/3")); code != impl.OK {
				t.Errorf("RunTape of %d steps over one another: code %d", len(steps), code)
			}
		}
	}
}

func TestTapeTextOfEachKind(t *testing.T) {
	p := tapeOf(stepConst(0), stepConst(999999999), stepVar(0), stepVar(3), stepTwo(impl.OpAdd, 2, 3), stepTwo(impl.OpSub, 3, 2), stepTwo(impl.OpMul, 0, 0), stepTwo(impl.OpDiv, 5, 1),
		stepNeg(0), stepNeg(8), stepPow(9, 0), stepPow(10, 8), stepTwo(impl.OpAdd, 11, 10))
	want := []string{"0 const 0", "1 const 999999999", "2 var 0", "3 var 3", "4 add 2 3", "5 sub 3 2", "6 mul 0 0", "7 div 5 1", "8 neg 0", "9 neg 8", "10 pow 9 0", "11 pow 10 8", "12 add 11 10"}
	if lines, code := impl.TapeText(p); code != impl.OK || !slices.Equal(lines, want) {
		t.Errorf("TapeText = %q, %d; want %q", lines, code, want)
	}
	for n := range 9 {
		lines, code := impl.TapeText(tapeOf(stepVar(n%4), stepPow(0, n)))
		if want := []string{fmt.Sprint("0 var ", n%4), fmt.Sprint("1 pow 0 ", n)}; code != impl.OK || !slices.Equal(lines, want) {
			t.Errorf("TapeText = %q, %d; want %q", lines, code, want)
		}
	}
	for _, n := range allNumbers() {
		if lines, code := impl.TapeText(tapeOf(stepConst(n))); code != impl.OK || len(lines) != 1 || lines[0] != fmt.Sprint("0 const ", n) {
			t.Errorf("TapeText of %d = %q, %d", n, lines, code)
		}
	}
}

// checkTapeCode compiles the text and wants the word of RunTape's code, which is ValueOf's, too.
func checkTapeCode(t *testing.T, text, x, word string) {
	t.Helper()
	e := exprOf(t, text)
	p, code := impl.Compile(e)
	run := checkRun(t, p, vecOf(t, x))
	if _, value := impl.ValueOf(e, vecOf(t, x)); code != impl.OK || impl.CodeWord(run) != word || value != run {
		t.Errorf("%s at %s: code %d; its tape %s, its meaning %s; want %s", text, x, code, impl.CodeWord(run), impl.CodeWord(value), word)
	}
}

func TestRunTapeOfWhatIsOver0(t *testing.T) {
	for _, text := range []string{
		"1 / 0", "0 / 0", "x0 / 0", "1 / x0", "x0 / x0", "0 / x0", "1 / (x1 - x1)", "x1 / (0 * x1)", "1 / (0 / x1)", "1 / -x0", "1 / x0^3", "0 * (1 / x0)", "(1 / x0)^0", "1 / x0 - 1 / x0", "1 / (1 / x0)",
	} {
		checkTapeCode(t, text, "0 1", "domain")
		checkTapeCode(t, text, "0 1 2 3", "domain")
	}
	for _, text := range []string{"x0 / x1", "0 / x1", "1 / x0^0", "1 / (x0 - 1)", "x0 / x1 / x1"} {
		checkTapeCode(t, text, "0 1", "ok")
	}
}

func TestRunTapeAtMaxLimbs(t *testing.T) {
	top, below := strings.Repeat("9", 4*impl.MaxLimbs), strings.Repeat("9", 4*impl.MaxLimbs-1)+"8"
	for _, c := range [][3]string{
		{"x0", top, "ok"}, {"x0", "1/" + top, "ok"}, {"-x0", top, "ok"}, {"x0^1", top, "ok"}, {"x0^0", top, "ok"}, {"x0 - x0", top, "ok"}, {"x0 / x0", top, "ok"}, {"1 / x0", top, "ok"},
		{"x0 + 1", below, "ok"}, {"x0 + 1", top, "full"}, {"x0 + x0", top, "full"}, {"(x0 + 1) - 1", top, "full"}, {"(x0 + 1) * 0", top, "full"}, {"(x0 + 1)^0", top, "full"}, {"-x0 - 1", top, "full"}, {"-x0 - 1", below, "ok"},
		{"x0 * x0", "1e79", "ok"}, {"x0 * x0", "1e80", "full"}, {"x0^2", "1e-79", "ok"}, {"x0^2", "1e-80", "full"}, {"x0^8", "1e19", "ok"}, {"x0^8", "1e20", "full"}, {"x0 / 2", "1/" + top, "full"}, {"x0 / 2", "2/" + top, "ok"},
		{"x0 + x1", top + " -" + top, "ok"}, {"x0 - x1", top + " -" + top, "full"}, {"((2^8)^8)^8", "0", "ok"}, {"((3^8)^8)^8", "0", "full"},
	} {
		checkTapeCode(t, c[0], c[1], c[2])
	}
}

// A step that is used again has its code where it is first.
func TestRunTapeCodesWhicheverComesFirst(t *testing.T) {
	for _, c := range [][3]string{
		{"x0 * x0 + 1 / x1", "1e100 0", "full"},
		{"1 / x1 + x0 * x0", "1e100 0", "domain"},
		{"x0 * x0 / x1", "1e100 0", "full"},
		{"x0 / x1 * x0 * x0", "1e100 0", "domain"},
		{"x0 / (x0 * x0 * 0)", "1e100 0", "full"},
		{"x0 * x0 / (x1 - x1)", "1e79 0", "domain"},
		{"x0 * x0 + 1 / x1 + x0 * x0", "1e100 0", "full"},
		{"1 / x1 + x0 * x0 + 1 / x1", "1e100 0", "domain"},
		{"x0^2 / x1 + x0^2", "1e79 0", "domain"},
		{"x0^2 / x1 + x0^3", "1e79 0", "domain"},
		{"x0^3 + x0^2 / x1", "1e79 0", "full"},
	} {
		checkTapeCode(t, c[0], c[1], c[2])
	}
}
