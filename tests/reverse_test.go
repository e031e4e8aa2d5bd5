package tests

import (
	"math/big"
	"math/rand"
	"slices"
	"strings"
	"testing"

	"loop.example/g00615/impl"
)

// backAt tells of a tape's steps what is due at a point along a way, by forms alone: nothing goes back in it.
type backAt struct {
	forms  []*form
	values valuesAt
	along  slopesAlong
}

func backOf(p impl.Tape, x, v []impl.Rat) backAt {
	return backAt{formsOf(p.Steps), valuesAt{x, map[*form]*big.Rat{}}, slopesAlong{v, map[*form]*form{}}}
}

func (b backAt) slopes(list []*form) []*form {
	var slopes []*form
	for _, f := range list {
		slopes = append(slopes, b.along.of(f))
	}
	return slopes
}

// hangs has of each step the answer's slope where that step alone moves.
func (b backAt) hangs() []*form {
	var list []*form
	for _, f := range b.forms {
		alone := slopesAlong{ratsAlike(ratOfInts(0, 1), impl.MaxDim), map[*form]*form{f: formOfInt(1)}}
		list = append(list, alone.of(b.forms[len(b.forms)-1]))
	}
	return list
}

// numbers answers false where any is too long.
func (b backAt) numbers(list []*form) ([]*big.Rat, bool) {
	var numbers []*big.Rat
	short := true
	for _, f := range list {
		q := b.values.of(f)
		numbers = append(numbers, q)
		short = short && !tooLong(ratOfBig(q))
	}
	return numbers, short
}

// atVariables has the number of each variable's step, and 0 where no step is one.
func atVariables(p impl.Tape, numbers []*big.Rat, length int) []*big.Rat {
	var list []*big.Rat
	for range length {
		list = append(list, new(big.Rat))
	}
	for i, n := range p.Steps {
		if n.Op == impl.OpVar {
			list[n.N].Add(list[n.N], numbers[i])
		}
	}
	return list
}

// backCall is a call of chapter 9, and the lists of numbers that it asks for behind the tape's own run, in their order.
type backCall struct {
	takesWay, atSteps bool
	call              func(p impl.Tape, x, v []impl.Rat) answer
	asked             func(b backAt) [][]*form
}

func backCalls() map[string]backCall {
	return map[string]backCall{
		"GradTape": {false, false,
			func(p impl.Tape, x, _ []impl.Rat) answer { return ofVec(impl.GradTape(p, x)) },
			func(b backAt) [][]*form { return [][]*form{b.hangs()} }},
		"TangentTape": {true, true,
			func(p impl.Tape, x, v []impl.Rat) answer { return ofVec(impl.TangentTape(p, x, v)) },
			func(b backAt) [][]*form { return [][]*form{b.slopes(b.forms)} }},
		"HvTape": {true, false,
			func(p impl.Tape, x, v []impl.Rat) answer { return ofVec(impl.HvTape(p, x, v)) },
			func(b backAt) [][]*form {
				hangs := b.hangs()
				return [][]*form{hangs, b.slopes(hangs)}
			}},
	}
}

// dueBack has the codes of the tape's run ahead of all that is asked for beyond it.
func dueBack(c backCall, p impl.Tape, x, v []impl.Rat) ([]*big.Rat, int) {
	if _, code := dueRun(p.Steps, x); code != impl.OK {
		return nil, code
	}
	b := backOf(p, x, v)
	var last []*big.Rat
	for _, list := range c.asked(b) {
		numbers, short := b.numbers(list)
		if !short {
			return nil, impl.ErrFull
		}
		last = numbers
	}
	if c.atSteps {
		return last, impl.OK
	}
	return atVariables(p, last, len(x)), impl.OK
}

// checkBack wants of right arguments what is due of each call, and tells the codes.
func checkBack(t *testing.T, p impl.Tape, x, v []impl.Rat) map[string]int {
	t.Helper()
	seen := map[string]int{}
	for name, c := range backCalls() {
		want, code := dueBack(c, p, x, v)
		got := c.call(p, x, v)
		seen[name] = got.code
		if code != impl.OK {
			if !got.zeroBut(code) {
				t.Errorf("%s of %s at %s along %s = %s; want code %d alone", name, briefTape(p), briefVec(x), briefVec(v), got, code)
			}
			continue
		}
		var list []impl.Rat
		for _, q := range want {
			list = append(list, ratOfBig(q))
		}
		if got.code != impl.OK || !sameVec(got.vec, list) {
			t.Errorf("%s of %s at %s along %s = %s; want %s", name, briefTape(p), briefVec(x), briefVec(v), got, told(list))
		}
	}
	return seen
}

// checkBackOf wants of a tape these answers, and that they are due.
func checkBackOf(t *testing.T, p impl.Tape, x, v, grad, tangents, hv string) {
	t.Helper()
	checkTape(t, p)
	point, way := vecOf(t, x), vecOf(t, v)
	checkBack(t, p, point, way)
	g, gradCode := impl.GradTape(p, point)
	s, slopeCode := impl.TangentTape(p, point, way)
	h, hvCode := impl.HvTape(p, point, way)
	if max(gradCode, slopeCode, hvCode) != impl.OK || told(g) != grad || told(s) != tangents || told(h) != hv {
		t.Errorf("%s at %s along %s: %s, %d; %s, %d; %s, %d; want %s; %s; %s", briefTape(p), x, v, told(g), gradCode, told(s), slopeCode, told(h), hvCode, grad, tangents, hv)
	}
}

func tapeOfText(t *testing.T, text string) impl.Tape {
	t.Helper()
	p, code := impl.Compile(exprOf(t, text))
	if code != impl.OK {
		t.Fatalf("Compile(%q): code %d", text, code)
	}
	return p
}

func TestWayBackOfOrdinaryOnes(t *testing.T) {
	for _, c := range []struct{ text, x, v, grad, tangents, hv string }{
		{"7", "5", "1", "0", "0", "0"},
		{"7", "1 2 3 4", "5 6 7 8", "0 0 0 0", "0", "0 0 0 0"},
		{"0 - 3", "1 2", "5 6", "0 0", "0 0 0", "0 0"},
		{"x0", "1/2", "-7", "1", "-7", "0"},
		{"x1", "4 5 6", "1 2 3", "0 1 0", "2", "0 0 0"},
		{"-x0", "3", "2", "-1", "2 -2", "0"},
		{"x0 + x1", "1 2", "3 5", "1 1", "3 5 8", "0 0"},
		{"x0 - x1", "1 2", "3 5", "1 -1", "3 5 -2", "0 0"},
		{"x1 - x0", "1 2", "3 5", "-1 1", "5 3 2", "0 0"},
		{"x0 * x1", "2 3", "5 7", "3 2", "5 7 29", "7 5"},
		{"x0 / x1", "3 2", "5 7", "1/2 -3/4", "5 7 -11/4", "-7/4 4"},
		{"x1 / x0", "2 3", "7 5", "-3/4 1/2", "5 7 -11/4", "4 -7/4"},
		{"1 / x0", "-2", "3", "-1/4", "0 3 -3/4", "-3/4"},
		{"x0 / 4", "-2", "3", "1/4", "3 0 3/4", "0"},
		{"0 / x0", "-2", "3", "0", "0 3 0", "0"},
		{"x0^8", "-1", "1/2", "-8", "1/2 -4", "28"},
		{"x0 * x1 * x2", "2 3 5", "1 0 0", "15 10 6", "1 0 3 0 15", "0 5 3"},
		{"x3 * 2 + x1", "1 2 3 4", "1 1 1 1", "0 1 0 2", "1 0 2 1 3", "0 0 0 0"},
		{"(x0 - 3)^2 + 2 * (x1 + 1)^2", "0 0", "1 1", "-6 4", "1 0 1 -6 0 1 0 1 2 4 -2", "2 4"},
		{"x0*x1 + x0^2", "3 -5", "1 2", "1 3", "1 2 1 6 7", "4 1"},
	} {
		checkBackOf(t, tapeOfText(t, c.text), c.x, c.v, c.grad, c.tangents, c.hv)
	}
}

// How the answer hangs on a step is added up over all that use it, and twice over one that uses it twice.
func TestWayBackOfWhatIsUsedTwice(t *testing.T) {
	for _, c := range []struct{ text, x, v, grad, tangents, hv string }{
		{"x0 + x0", "5", "3", "2", "3 6", "0"},
		{"x0 - x0", "5", "3", "0", "3 0", "0"},
		{"x0 * x0", "5", "3", "10", "3 30", "6"},
		{"x0 / x0", "5", "3", "0", "3 0", "0"},
		{"x0 * x0 * x0", "2", "1", "12", "1 4 12", "12"},
		{"x0 * x0 / x0", "2", "1", "1", "1 4 1", "0"},
		{"x0 / x0 / x0", "2", "1", "-1/4", "1 0 -1/4", "1/4"},
		{"(x0 + x0) * (x0 + x0)", "3", "1", "24", "1 2 24", "8"},
		{"(x0 + x1)^2 * (x0 + x1)^2", "1 -2", "1 1", "-4 -4", "1 1 2 -4 -8", "24 24"},
		{"-x0 * -x0", "3", "2", "6", "2 -2 12", "4"},
		{"x0^2 + x0^2", "3", "1", "12", "1 6 12", "4"},
		{"x0^2 - x0^2", "3", "1", "0", "1 6 0", "0"},
		{"1 / x0 + 1 / x0", "2", "1", "-1/2", "0 1 -1/4 -1/2", "1/2"},
		{"x0 / (x0 + x1^2) - -x0", "1 2", "3 -1", "29/25 -4/25", "3 -1 -4 -1 16/25 -3 91/25", "-12/125 -58/125"},
	} {
		checkBackOf(t, tapeOfText(t, c.text), c.x, c.v, c.grad, c.tangents, c.hv)
	}
	// x0 (x0 - 1)^2: one step is used by two others, and by one twice.
	p := tapeOf(stepVar(0), stepPow(0, 2), stepNeg(0), stepTwo(impl.OpAdd, 1, 2), stepTwo(impl.OpMul, 3, 0), stepTwo(impl.OpSub, 4, 3))
	checkBackOf(t, p, "3", "1", "16", "1 6 -1 5 21 16", "14")
	// Its square.
	p = tapeOf(append(p.Steps, stepTwo(impl.OpMul, 5, 5))...)
	checkBackOf(t, p, "3", "1", "384", "1 6 -1 5 21 16 384", "848")
}

// Each step uses the one ahead twice: there are more ways back than could be gone one by one.
func TestWayBackOverTwiceAsManyWaysAtEachStep(t *testing.T) {
	for op, name := range map[int]string{impl.OpAdd: "doubled", impl.OpMul: "squared"} {
		steps := []impl.Node{stepVar(0)}
		for i := range impl.MaxNodes - 1 {
			steps = append(steps, stepTwo(op, i, i))
			power := new(big.Int).Lsh(big.NewInt(1), uint(i+1))
			second := new(big.Int)
			if op == impl.OpMul {
				second.Mul(power, new(big.Int).Sub(power, big.NewInt(1)))
			}
			grad, gradCode := impl.GradTape(tapeOf(steps...), vecOfInts(1))
			hv, hvCode := impl.HvTape(tapeOf(steps...), vecOfInts(1), vecOfInts(1))
			slopes, code := impl.TangentTape(tapeOf(steps...), vecOfInts(1), vecOfInts(1))
			if max(gradCode, hvCode, code) != impl.OK || told(grad) != power.String() || told(hv) != second.String() || told(slopes[i+1:]) != power.String() {
				t.Errorf("%s %d times: %s, %d; %s, %d; %s, %d", name, i+1, told(grad), gradCode, told(hv), hvCode, told(slopes), code)
			}
		}
	}
	subs, quotients := []impl.Node{stepVar(0)}, []impl.Node{stepVar(0)}
	for i := range impl.MaxNodes - 1 {
		subs, quotients = append(subs, stepTwo(impl.OpSub, 0, i)), append(quotients, stepTwo(impl.OpDiv, 0, i))
	}
	checkBack(t, tapeOf(subs...), vecOf(t, "2/3"), vecOf(t, "-1"))
	checkBack(t, tapeOf(quotients...), vecOf(t, "2/3"), vecOf(t, "-1"))
}

func TestWayBackOfStepsThatTheAnswerDoesNotHangOn(t *testing.T) {
	for _, c := range []struct {
		p                        impl.Tape
		x, v, grad, tangents, hv string
	}{
		{tapeOf(stepVar(0), stepConst(3)), "5", "1", "0", "1 0", "0"},
		{tapeOf(stepVar(0), stepPow(0, 3), stepVar(1)), "5 6", "1 1", "0 1", "1 75 1", "0 0"},
		{tapeOf(stepVar(0), stepPow(0, 3), stepConst(2)), "5 6", "1 1", "0 0", "1 75 0", "0 0"},
		{tapeOf(stepVar(0), stepVar(1), stepTwo(impl.OpMul, 0, 1), stepPow(2, 2), stepNeg(0)), "2 3", "1 1", "-1 0", "1 1 5 60 -1", "0 0"},
		{tapeOf(stepVar(0), stepVar(1), stepTwo(impl.OpDiv, 0, 1), stepTwo(impl.OpMul, 0, 1)), "2 3", "5 7", "3 2", "5 7 1/9 29", "7 5"},
		{tapeOf(stepVar(0), stepConst(0), stepTwo(impl.OpMul, 1, 0)), "5", "2", "0", "2 0 0", "0"},
		{tapeOf(stepVar(0), stepPow(0, 0), stepTwo(impl.OpMul, 1, 0)), "5", "2", "1", "2 0 2", "0"},
		{tapeOf(stepVar(0), stepPow(0, 2), stepTwo(impl.OpSub, 1, 1)), "5", "2", "0", "2 20 0", "0"},
	} {
		checkBackOf(t, c.p, c.x, c.v, c.grad, c.tangents, c.hv)
	}
	// Its codes count all the same: those of its value, and of its slope where that is answered.
	for _, c := range []struct {
		p           impl.Tape
		x, v, words string
	}{
		{tapeOf(stepVar(0), stepTwo(impl.OpDiv, 0, 0), stepNeg(0)), "0", "0", backDomain},
		{tapeOf(stepConst(0), stepTwo(impl.OpDiv, 0, 0), stepVar(0)), "5", "1", backDomain},
		{tapeOf(stepVar(0), stepTwo(impl.OpMul, 0, 0), stepNeg(0)), "1e80", "0", backFull},
		{tapeOf(stepVar(0), stepTwo(impl.OpMul, 0, 0), stepNeg(0)), "1e79", "0", backOK},
		{tapeOf(stepVar(0), stepTwo(impl.OpMul, 0, 0), stepNeg(0)), "1e79", "1e90", "ok full ok"},
		{tapeOf(stepVar(0), stepTwo(impl.OpMul, 0, 0), stepConst(1)), "1e79", "1e90", "ok full ok"},
	} {
		checkBackCodes(t, c.p, c.x, c.v, c.words)
	}
}

func TestWayBackOfOneStep(t *testing.T) {
	for length := 1; length <= impl.MaxDim; length++ {
		x, v := vecOfInts(2, 3, 5, 7)[:length], vecOfInts(-1, 4, 0, 6)[:length]
		for _, n := range []int{0, 1, 999999999} {
			p := tapeOf(stepConst(n))
			checkBackOf(t, p, told(x), told(v), strings.TrimSpace(strings.Repeat("0 ", length)), "0", strings.TrimSpace(strings.Repeat("0 ", length)))
		}
		for n := range length {
			checkBackOf(t, tapeOf(stepVar(n)), told(x), told(v), told(axisVec(n, length)), told(v[n:n+1]), strings.TrimSpace(strings.Repeat("0 ", length)))
		}
	}
}

func TestWayBackOfPowers(t *testing.T) {
	for n := range 9 {
		for _, x := range []string{"0", "1", "-1", "2", "-3/2", "1/7", "100000000001"} {
			q := bigRatOf(vecOf(t, x)[0])
			power := func(factor int64, exponent int) string {
				value := big.NewRat(factor, 1)
				for range exponent {
					value.Mul(value, q)
				}
				return value.RatString()
			}
			slope, bend := power(int64(n), max(n-1, 0)), power(int64(n*(n-1)), max(n-2, 0))
			checkBackOf(t, tapeOf(stepVar(0), stepPow(0, n)), x, "1", slope, "1 "+slope, bend)
		}
	}
	for _, text := range []string{"x0^0", "0^0", "(x0 - x0)^0", "(x0 * 0)^0", "(x0^0)^0", "x0^0 * x0^0", "1 / x0^0", "(x0 - 5)^0", "((x0^2)^0)^3"} {
		for _, x := range []string{"0", "5", "-1/3", "1e70"} {
			p := tapeOfText(t, text)
			checkBack(t, p, vecOf(t, x), vecOf(t, "3"))
			grad, gradCode := impl.GradTape(p, vecOf(t, x))
			slopes, code := impl.TangentTape(p, vecOf(t, x), vecOf(t, "3"))
			hv, hvCode := impl.HvTape(p, vecOf(t, x), vecOf(t, "3"))
			if max(gradCode, code, hvCode) != impl.OK || told(grad) != "0" || told(slopes[p.Out:]) != "0" || told(hv) != "0" {
				t.Errorf("%s at %s: %s, %d; %s, %d; %s, %d; want 0", text, x, told(grad), gradCode, told(slopes), code, told(hv), hvCode)
			}
		}
	}
	checkBackOf(t, tapeOfText(t, "x1^0 + x1^1"), "1 2", "3 -1", "0 1", "-1 0 -1 -1", "0 0")
	checkBackOf(t, tapeOfText(t, "(x0^1)^1 * x0^1"), "0", "3", "0", "3 3 3 0", "6")
	checkBackOf(t, tapeOfText(t, "(x0^2)^1 + (x0 * x1)^2"), "0 0", "3 1", "0 0", "3 0 0 1 0 0 0", "6 0")
}

// What is as long as is asked, longer, and shorter; v is as long as x, or not.
func TestWayBackAtLengthsOfX(t *testing.T) {
	all, ways := vecOfInts(2, 3, 5, 7), vecOfInts(1, -2, 4, 3)
	for dim := range impl.MaxDim {
		for _, p := range []impl.Tape{
			tapeOf(stepVar(dim)), tapeOf(stepVar(dim), stepPow(0, 3)), tapeOf(stepVar(dim), stepConst(4)), tapeOf(stepConst(9), stepVar(dim), stepTwo(impl.OpDiv, 0, 1), stepNeg(0)),
		} {
			for length := 1; length <= impl.MaxDim; length++ {
				for other := 1; other <= impl.MaxDim; other++ {
					if length > dim && other == length {
						checkBack(t, p, all[:length], ways[:length])
						continue
					}
					for name, c := range backCalls() {
						if got := c.call(p, all[:length], ways[:other]); !got.zeroBut(impl.ErrSize) && (length <= dim || c.takesWay) {
							t.Errorf("%s of %s at %d numbers along %d = %s; want ErrSize alone", name, briefTape(p), length, other, got)
						}
					}
				}
			}
		}
	}
}

// Along no way at all nothing goes anywhere.
func TestWayBackAlongNoughts(t *testing.T) {
	noise := rand.New(rand.NewSource(81))
	for i := range 200 {
		p := noisyTape(noise, 1+i%30)
		x, zeros := smallVec(noise, impl.MaxDim), ratsAlike(ratOfInts(0, 1), impl.MaxDim)
		grad, gradCode := impl.GradTape(p, x)
		slopes, code := impl.TangentTape(p, x, zeros)
		hv, hvCode := impl.HvTape(p, x, zeros)
		if _, runCode := impl.RunTape(p, x); code != runCode || gradCode != hvCode {
			t.Errorf("%s along noughts: codes %d, %d, %d, of the run %d", briefTape(p), gradCode, code, hvCode, runCode)
		}
		if code == impl.OK && !sameVec(slopes, ratsAlike(ratOfInts(0, 1), len(p.Steps))) || hvCode == impl.OK && (!sameVec(hv, zeros) || len(grad) != len(x)) {
			t.Errorf("%s along noughts: %s; %s", briefTape(p), told(slopes), told(hv))
		}
	}
}

const (
	backOK     = "ok ok ok"
	backDomain = "domain domain domain"
	backFull   = "full full full"
)

// checkBackCodes wants codes of GradTape, TangentTape and HvTape, as words.
func checkBackCodes(t *testing.T, p impl.Tape, x, v, words string) {
	t.Helper()
	seen := checkBack(t, p, vecOf(t, x), vecOf(t, v))
	var list []string
	for _, name := range []string{"GradTape", "TangentTape", "HvTape"} {
		list = append(list, impl.CodeWord(seen[name]))
	}
	if got := strings.Join(list, " "); got != words {
		t.Errorf("%s at %s along %s: %s; want %s", briefTape(p), x, v, got, words)
	}
}

func TestWayBackOfWhatIsOver0(t *testing.T) {
	for _, text := range []string{
		"1 / 0", "0 / 0", "x0 / 0", "1 / x0", "x0 / x0", "0 / x0", "x0^2 / x0", "1 / (x1 - x1)", "x1 / (0 * x1)", "1 / (0 / x1)", "1 / -x0", "1 / x0^3", "0 * (1 / x0)", "(1 / x0)^0", "1 / x0 - 1 / x0", "1 / (1 / x0)",
	} {
		for _, v := range []string{"0 0", "1 0", "0 1", "-2 3"} {
			checkBackCodes(t, tapeOfText(t, text), "0 1", v, backDomain)
		}
	}
	for _, text := range []string{"x0 / x1", "0 / x1", "x0^8 / x1", "1 / x0^0", "1 / (x0 - 1)", "x0 / x1 / x1", "x0 * x0 / x1"} {
		checkBackCodes(t, tapeOfText(t, text), "0 1", "1 1", backOK)
	}
}

// Each kind of number that is too long, while those ahead of it are not; the greatest one has 160 nines.
func TestWayBackOfMoreThanMaxLimbs(t *testing.T) {
	top, below := strings.Repeat("9", 4*impl.MaxLimbs), strings.Repeat("9", 4*impl.MaxLimbs-1)+"8"
	for _, c := range [][4]string{
		// a step's value
		{"x0", top, top, backOK},
		{"x0 + 1", below, "0", backOK},
		{"x0 + 1", top, "0", backFull},
		{"0 * (x0 + 1)", top, "0", backFull},
		{"(x0 + 1)^0", top, "0", backFull},
		{"((2^8)^8)^8", "0", "1", backOK},
		{"((3^8)^8)^8", "0", "1", backFull},
		{"x0 / 2", "1/" + top, "0", backFull},
		// a step's slope along v, which TangentTape alone answers
		{"x0 + x1", "0 0", "1 " + below, backOK},
		{"x0 + x1", "0 0", "1 " + top, "ok full ok"},
		{"x0 - x1", "0 0", "-1 " + top, "ok full ok"},
		{"x0 + x0", "1", top, "ok full ok"},
		{"x0 - x0", "0", top, backOK},
		{"x0 * x1", "1e80 0", "0 1e79", backOK},
		{"x0 * x1", "1e80 0", "0 1e80", "ok full ok"},
		{"x0 * x1", "1e76 1e76", "1e100 1e100", "ok full ok"},
		{"(x0 * x1)^0", "1e80 0", "0 1e80", "ok full ok"},
		{"(x0 * x1)^1", "1e80 0", "0 1e80", "ok full ok"},
		{"-(x0 * x1)", "1e80 0", "0 1e80", "ok full ok"},
		{"x0^2", "0", "1e159", backOK},
		// but with which HvTape goes back, also to constants
		{"0 * (x0 * x1)", "1e80 0", "0 1e80", "ok full full"},
		{"x0 / 2", "0", "1/" + top, "ok full full"},
		{"(x0 + x1)^2", "0 0", "1 " + top, "ok full full"},
		{"(x0 + x1) * x0", "0 0", "1 " + top, "ok full full"},
		{"x0 / (1 + x1 + x2)", "1 0 0", "0 1 " + top, "ok full full"},
		// how the answer hangs on a step: on a variable's
		{"x0 * x1 + x0", "0 " + below, "0 0", backOK},
		{"x0 * x1 + x0", "0 " + top, "0 0", "full ok full"},
		{"x1 * x0 - x0", "0 -" + top, "0 0", "full ok full"},
		{"x0 * x1 + x0 / 2", "0 2/" + below, "0 0", backOK},
		{"x0 * x1 + x0 / 2", "0 1/" + top, "0 0", "full ok full"},
		{"1 / x0", "1e-79", "0", backOK},
		{"1 / x0", "1e-80", "0", "full ok full"},
		{"x0^8", "1e19", "0", backOK},
		// on another one's
		{"0 * x0 * x0", "1e79", "0", backOK},
		{"0 * x0 * x0", "1e80", "0", "full ok full"},
		{"0 / x0 / x0", "1e-80", "0", "full ok full"},
		{"(x0 - x0) * x1 * x1", "1 1e79", "0 0", backOK},
		{"(x0 - x0) * x1 * x1", "1 1e80", "0 0", "full ok full"},
		{"-(x0 * 0) * x1 * x1", "1 1e80", "0 0", "full ok full"},
		{"(x0 * 0)^1 * x1 * x1", "1 1e80", "0 0", "full ok full"},
		// that one's slope along v: on a variable's
		{"x0 * x1 + x0", "0 0", "0 " + top, backOK},
		{"x0 * x1 + x1 * x0", "0 0", "0 5e158", backOK},
		{"x0 * x1 + x1 * x0", "0 0", "0 " + top, "ok ok full"},
		{"x0^2", "0", "5e159", "ok ok full"},
		{"1 / x0", "1e-50", "1", backOK},
		{"1 / x0", "1e-60", "1", "ok ok full"},
		{"1 / x0", "1e-60", "1e-30", backOK},
		// on another one's
		{"0 * x0 * x0", "1e10", "1e148", backOK},
		{"0 * x0 * x0", "1e10", "1e150", "ok ok full"},
		{"(x0 - x0) * x1 * x1", "1 1e10", "1 1e150", "ok ok full"},
	} {
		checkBackCodes(t, tapeOfText(t, c[0]), c[1], c[2], c[3])
	}
}

// HvTape goes back with slopes of any length: where they become shorter, or cancel, it has an answer.
func TestWayBackWithLongSlopes(t *testing.T) {
	for _, c := range [][4]string{
		{"x0 + x0", "1", top160(), "0"},
		{"x0 * x1", "1e76 1e76", "1e100 1e100", "1e100 1e100"},
		{"x0 * 10000 * x1 / 100000", "0 0", "1e158 10", "1 1e157"},
		{"(x0 * 10000)^2 / 100000000", "0", "1e158", "2e158"},
		{"x1 / (x0 * 10000)", "1e20 1", "1e158 0", "2e94 -1e114"},
		{"1 / (x0 * 10000)^2", "1e20", "1e158", "6e70"},
		{"(x0 + x1) * x2 - x2 * (x0 + x1)", "0 0 0", "1 " + top160() + " 5", "0 0 0"},
		{"0 * (x0 + x1)^0", "0 0", "1 " + top160(), "0 0"},
	} {
		p := tapeOfText(t, c[0])
		checkBackCodes(t, p, c[1], c[2], "ok full ok")
		if got, code := impl.HvTape(p, vecOf(t, c[1]), vecOf(t, c[2])); code != impl.OK || !sameVec(got, vecOf(t, c[3])) {
			t.Errorf("HvTape of %s at %s along %s = %s, %d; want %s", c[0], c[1], c[2], told(got), code, c[3])
		}
	}
	// One that the answer does not hang on.
	checkBackCodes(t, tapeOf(stepVar(0), stepTwo(impl.OpAdd, 0, 0), stepConst(7)), "1", top160(), "ok full ok")
}

// Slopes may grow step by step, each time by as much as a number may have.
func TestWayBackWithEverLongerSlopes(t *testing.T) {
	for _, op := range []int{impl.OpMul, impl.OpDiv} {
		steps := []impl.Node{stepVar(0), stepVar(1), stepTwo(op, 0, 1)}
		for len(steps) < impl.MaxNodes-2 {
			steps = append(steps, stepTwo(op, len(steps)-1, 1))
		}
		x := "0 " + map[int]string{impl.OpMul: "1e159", impl.OpDiv: "1e-159"}[op]
		checkBackCodes(t, tapeOf(steps...), x, "1e159 1e159", "full full full")
		steps = append(steps, stepTwo(impl.OpSub, len(steps)-1, len(steps)-1))
		checkBackCodes(t, tapeOf(steps...), x, "1e159 1e159", "ok full ok")
	}
}

// What is added up at a step may be too long on the way: it counts when the step is come to.
func TestWayBackThatCancelsAheadOfItsStep(t *testing.T) {
	// x0 x1 x1 - x1 x0 x1: each of the two is 10^200 at x0.
	p := tapeOf(stepVar(0), stepVar(1), stepTwo(impl.OpMul, 0, 1), stepTwo(impl.OpMul, 2, 1), stepTwo(impl.OpMul, 1, 0), stepTwo(impl.OpMul, 4, 1), stepTwo(impl.OpSub, 3, 5))
	checkBackOf(t, p, "0 1e100", "0 1e50", "0 0", "0 "+big.NewInt(0).Exp(big.NewInt(10), big.NewInt(50), nil).String()+" 0 0 0 0 0", "0 0")
	checkBackCodes(t, p, "0 1e100", "0 1e100", backOK)
	checkBackCodes(t, p, "0 1e100", "1e-50 1e100", backOK)
	checkBackCodes(t, p, "0 1e100", "1 1", "ok full ok")
	// With a sum for the difference they do not cancel.
	p = tapeOf(append(slices.Clone(p.Steps[:6]), stepTwo(impl.OpAdd, 3, 5))...)
	checkBackCodes(t, p, "0 1e100", "0 0", "full ok full")
	checkBackCodes(t, p, "0 1e60", "0 1e110", "ok ok full")
	checkBackCodes(t, p, "0 1e60", "0 1e90", backOK)
	// One step's two: what x0 has of the numerator and of the denominator.
	checkBackCodes(t, tapeOfText(t, "x0 / x0"), "1e-100", "1e50", backOK)
	checkBackCodes(t, tapeOfText(t, "x0 / x0"), top160(), top160(), backOK)
	checkBackCodes(t, tapeOfText(t, "x0 - x0"), top160(), top160(), backOK)
}

func top160() string { return strings.Repeat("9", 4*impl.MaxLimbs) }

// The tape is run first: what it has of ErrDomain and ErrFull comes step by step, and all of it ahead of any slope.
func TestWayBackCodesWhicheverComesFirst(t *testing.T) {
	for _, c := range [][4]string{
		{"x0 * x0 + 1 / x1", "1e100 0", "0 0", backFull},
		{"1 / x1 + x0 * x0", "1e100 0", "0 0", backDomain},
		{"x0 * x0 / x1", "1e100 0", "1 1", backFull},
		{"x0 / x1 * x0 * x0", "1e100 0", "1 1", backDomain},
		{"x0 * x0 + 1 / x1 + x0 * x0", "1e100 0", "0 0", backFull},
		{"1 / x1 + x0 * x0 + 1 / x1", "1e100 0", "0 0", backDomain},
		// a slope along v that is too long ahead of what is over 0
		{"x0 * x1 + 1 / 0", "0 1e80", "1e80 0", backDomain},
		{"1 / 0 + x0 * x1", "0 1e80", "1e80 0", backDomain},
		{"(x0 + x1) / x2", "1 1 0", "6e159 6e159 0", backDomain},
		// how the answer hangs on a step, and its slope, with what is over 0
		{"0 * x0 * x0 * (1 / x1)", "1e100 0", "0 0", backDomain},
		{"1 / x0 + 1 / x1", "1e-100 0", "0 0", backDomain},
		{"1 / x0 + 1 / x1", "1e-60 0", "1 0", backDomain},
	} {
		checkBackCodes(t, tapeOfText(t, c[0]), c[1], c[2], c[3])
	}
	over := tapeOf(stepVar(0), stepVar(1), stepTwo(impl.OpMul, 0, 1), stepTwo(impl.OpDiv, 0, 0), stepConst(1))
	checkBackCodes(t, over, "0 1e80", "1e80 0", backDomain)
}

// checkBothWays wants of an expression that its tape's way back is the tree's, wherever both have an answer; it tells whether they have.
func checkBothWays(t *testing.T, e impl.Expr, p impl.Tape, x, v []impl.Rat) (gradHeld, hvHeld bool) {
	t.Helper()
	text, _ := impl.PrintExpr(e)
	grad, gradCode := impl.GradTape(p, x)
	tree, treeCode := impl.GradOf(e, x)
	if gradHeld = max(gradCode, treeCode) == impl.OK; gradHeld && !impl.SameVec(grad, tree) {
		t.Errorf("%s at %s: GradTape %s, GradOf %s", text, briefVec(x), told(grad), told(tree))
	}
	hv, hvCode := impl.HvTape(p, x, v)
	curve, curveCode := impl.CurveOf(e, x, v)
	if hvHeld = max(hvCode, curveCode) == impl.OK; hvHeld && !impl.SameVec(hv, curve) {
		t.Errorf("%s at %s along %s: HvTape %s, CurveOf %s", text, briefVec(x), briefVec(v), told(hv), told(curve))
	}
	slopes, code := impl.TangentTape(p, x, v)
	_, slope, slopeCode := impl.SlopeOf(e, x, v)
	if max(code, slopeCode) == impl.OK && !sameRat(slopes[p.Out], slope) {
		t.Errorf("%s at %s along %s: TangentTape %s, SlopeOf %v", text, briefVec(x), briefVec(v), told(slopes), slope)
	}
	for _, c := range []int{gradCode, code, hvCode} {
		if (c == impl.ErrDomain) != (gradCode == impl.ErrDomain) {
			t.Errorf("%s at %s: codes %d, %d, %d", text, briefVec(x), gradCode, code, hvCode)
		}
	}
	return gradHeld, hvHeld
}

// The theorem of both ways.
func TestTheoremOfBothWays(t *testing.T) {
	noise := rand.New(rand.NewSource(82))
	grads, hvs := 0, 0
	for i := range 2500 {
		w := tameTwig(noise, 1+i%impl.MaxNodes, 1+i%impl.MaxDeep)
		if i%4 == 0 {
			w = grownTwig(noise, 1+i%impl.MaxNodes, 1+i%impl.MaxDeep)
		}
		if i%4 == 1 {
			// Much of it is there twice.
			w = tameTwig(noise, 1+i%28, 1+i%8)
			w = []*twig{twigOf(3, w, w), twigOf(5, w, negOf(w)), powOf(w, 2), twigOf(6, w, twigOf(3, w, leafConst(1)))}[i/4%4]
		}
		e := w.expr()
		p, code := impl.Compile(e)
		if code != impl.OK {
			continue
		}
		n := max(1, w.axes(), noise.Intn(impl.MaxDim+1))
		gradHeld, hvHeld := checkBothWays(t, e, p, smallVec(noise, n), smallVec(noise, n))
		if gradHeld {
			grads++
		}
		if hvHeld {
			hvs++
		}
		checkBothWays(t, e, p, noisyVec(noise, n), noisyVec(noise, n))
	}
	if grads < 1000 || hvs < 1000 {
		t.Errorf("held of %d gradients, and of %d along a way", grads, hvs)
	}
}

// A slope along v is the gradient with v, and second slopes are their own mirror, whichever way they are gone.
func TestWayBackAndTangentsAgree(t *testing.T) {
	noise := rand.New(rand.NewSource(83))
	held := 0
	for i := range 1000 {
		p := noisyTape(noise, 1+i%impl.MaxNodes)
		n := impl.MaxDim
		x, v, w := smallVec(noise, n), smallVec(noise, n), smallVec(noise, n)
		grad, gradCode := impl.GradTape(p, x)
		slopes, code := impl.TangentTape(p, x, v)
		hv, hvCode := impl.HvTape(p, x, v)
		hw, hwCode := impl.HvTape(p, x, w)
		if max(gradCode, code, hvCode, hwCode) != impl.OK {
			continue
		}
		held++
		along, c1 := impl.Dot(grad, v)
		first, c2 := impl.Dot(hv, w)
		second, c3 := impl.Dot(hw, v)
		if max(c1, c2, c3) == impl.OK && (!sameRat(along, slopes[p.Out]) || !sameRat(first, second)) {
			t.Errorf("%s at %s: slope %v, gradient with the way %v; second slopes %v, %v", briefTape(p), briefVec(x), slopes[p.Out], along, first, second)
		}
	}
	if held < 200 {
		t.Errorf("held of %d", held)
	}
}

func TestWayBackOfNoise(t *testing.T) {
	noise := rand.New(rand.NewSource(84))
	seen := map[string]int{}
	note := func(codes map[string]int) {
		for name, code := range codes {
			seen[name+" "+impl.CodeWord(code)]++
		}
	}
	for i := range 1200 {
		p := noisyTape(noise, 1+i%24)
		if i%3 == 0 {
			p, _ = impl.Compile(tameTwig(noise, 1+i%24, 1+i%8).expr())
		}
		note(checkBack(t, p, smallVec(noise, impl.MaxDim), smallVec(noise, impl.MaxDim)))
		note(checkBack(t, p, noisyVec(noise, impl.MaxDim), noisyVec(noise, impl.MaxDim)))
	}
	for count := 25; count <= impl.MaxNodes; count++ {
		note(checkBack(t, noisyTape(noise, count), smallVec(noise, impl.MaxDim), smallVec(noise, impl.MaxDim)))
		note(checkBack(t, evenTwig(count).dueTape(), smallVec(noise, 2), smallVec(noise, 2)))
	}
	for name := range backCalls() {
		for _, word := range []string{"ok", "domain", "full"} {
			if seen[name+" "+word] < 100 {
				t.Errorf("%s %s: %d times", name, word, seen[name+" "+word])
			}
		}
	}
}

// Each kind of step over each, up to four of them, over steps that are used twice and not.
func TestWayBackOfChains(t *testing.T) {
	noise := rand.New(rand.NewSource(85))
	kinds := func(a, b int) []impl.Node {
		return []impl.Node{stepTwo(impl.OpAdd, a, b), stepTwo(impl.OpSub, a, b), stepTwo(impl.OpMul, a, b), stepTwo(impl.OpDiv, a, b), stepNeg(a), stepPow(a, 0), stepPow(a, 1), stepPow(a, 3)}
	}
	held := 0
	for _, children := range [][3][2]int{{{0, 1}, {2, 0}, {1, 3}}, {{1, 1}, {2, 2}, {3, 3}}, {{0, 0}, {1, 2}, {2, 3}}, {{1, 0}, {0, 2}, {3, 2}}} {
		for _, first := range kinds(children[0][0], children[0][1]) {
			for _, second := range kinds(children[1][0], children[1][1]) {
				for _, third := range kinds(children[2][0], children[2][1]) {
					p := tapeOf(stepVar(0), stepVar(1), first, second, third)
					if !impl.TapeOK(p) {
						continue
					}
					codes := checkBack(t, p, smallVec(noise, 2), smallVec(noise, 2))
					if checkBack(t, p, vecOfInts(0, 0), vecOfInts(1, -1)); codes["HvTape"] == impl.OK {
						held++
					}
				}
			}
		}
	}
	if held < 1000 {
		t.Errorf("held of %d", held)
	}
}
