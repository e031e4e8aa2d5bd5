package tests

import (
	"fmt"
	"math/big"
	"math/rand"
	"regexp"
	"slices"
	"strconv"
	"strings"
	"testing"

	"loop.example/g00615/impl"
)

var (
	ratForm    = regexp.MustCompile(`^-?[0-9]{1,160}(/[0-9]{1,160})?$`)
	numberForm = regexp.MustCompile(`^(0|-?[1-9][0-9]{0,17})$`)
)

func dueRat(text string) (impl.Rat, bool) {
	if !ratForm.MatchString(text) {
		return impl.Rat{}, false
	}
	q, ok := new(big.Rat).SetString(text)
	if !ok || q.RatString() != text {
		return impl.Rat{}, false
	}
	return ratOfBig(q), true
}

func dueVec(words []string) ([]impl.Rat, int) {
	var x []impl.Rat
	for _, word := range words {
		r, ok := dueRat(word)
		if !ok {
			return nil, impl.ErrForm
		}
		x = append(x, r)
	}
	return x, impl.OK
}

// dueLine puts what one line tells into p.
func dueLine(p *impl.Problem, words []string) (code int) {
	rest := words[1:]
	switch words[0] {
	case "minimize":
		p.F.Nodes, code = dueExpr(strings.Join(rest, " "))
	case "start":
		p.Start, code = dueVec(rest)
	case "low":
		p.Low, code = dueVec(rest)
	case "high":
		p.High, code = dueVec(rest)
	case "solver":
		p.Solver = map[string]int{"descent": 1, "conjugate": 2, "project": 3, "newton": 4}[strings.Join(rest, " ")]
		if p.Solver == 0 {
			code = impl.ErrSolver
		}
	case "eps":
		x, bad := dueVec(rest)
		if bad != impl.OK || len(x) != 1 {
			return impl.ErrForm
		}
		p.Eps = x[0]
	case "limits":
		if len(rest) != 2 || !numberForm.MatchString(rest[0]) || !numberForm.MatchString(rest[1]) {
			return impl.ErrForm
		}
		p.Iter, _ = strconv.Atoi(rest[0])
		p.Back, _ = strconv.Atoi(rest[1])
	default:
		return impl.ErrForm
	}
	if len(rest) == 0 {
		return impl.ErrForm
	}
	return code
}

// dueProblem reads lines without the program.
func dueProblem(lines []string) (impl.Problem, int) {
	if len(lines) > 4096 {
		return impl.Problem{}, impl.ErrLong
	}
	var p impl.Problem
	var there []string
	for _, line := range lines {
		words := slices.DeleteFunc(strings.Split(line, " "), func(word string) bool { return word == "" })
		if len(words) == 0 {
			continue
		}
		if slices.Contains(there, words[0]) {
			return impl.Problem{}, impl.ErrMany
		}
		there = append(there, words[0])
		if code := dueLine(&p, words); code != impl.OK {
			return impl.Problem{}, code
		}
	}
	if !dueProblemRight(p) {
		return impl.Problem{}, impl.ErrBad
	}
	return p, impl.OK
}

// dueProblemRight is told by the rules of chapter 10, number by number.
func dueProblemRight(p impl.Problem) bool {
	right, _ := dueRight(p.F.Nodes)
	rightVec := func(x []impl.Rat) bool {
		return len(x) >= 1 && len(x) <= 4 && !slices.ContainsFunc(x, func(r impl.Rat) bool { return !impl.RatOK(r) })
	}
	if !right || !rightVec(p.Start) || !impl.RatOK(p.Eps) || bigRatOf(p.Eps).Sign() < 0 {
		return false
	}
	for _, n := range p.F.Nodes {
		if n.Op == impl.OpVar && n.N >= len(p.Start) {
			return false
		}
	}
	if p.Solver < 1 || p.Solver > 4 || p.Iter < 0 || p.Iter > 6 || p.Back < 0 || p.Back > 30 {
		return false
	}
	if len(p.Low) == 0 && len(p.High) == 0 {
		return true
	}
	if len(p.Low) != len(p.Start) || len(p.High) != len(p.Start) || !rightVec(p.Low) || !rightVec(p.High) {
		return false
	}
	for i, r := range p.Start {
		if bigRatOf(p.Low[i]).Cmp(bigRatOf(r)) > 0 || bigRatOf(r).Cmp(bigRatOf(p.High[i])) > 0 {
			return false
		}
	}
	return true
}

// sameFields takes problems that need not be right.
func sameFields(p, q impl.Problem) bool {
	return slices.Equal(p.F.Nodes, q.F.Nodes) && sameVec(p.Start, q.Start) && sameVec(p.Low, q.Low) && sameVec(p.High, q.High) &&
		p.Solver == q.Solver && sameRat(p.Eps, q.Eps) && p.Iter == q.Iter && p.Back == q.Back
}

func briefProblem(p impl.Problem) string {
	return fmt.Sprintf("{%s start %s low %s high %s solver %d eps %s limits %d %d}", briefNodes(p.F.Nodes), briefVec(p.Start), briefVec(p.Low), briefVec(p.High), p.Solver, briefRat(p.Eps), p.Iter, p.Back)
}

func briefLines(lines []string) string {
	if len(lines) > 12 {
		return fmt.Sprintf("%d lines", len(lines))
	}
	var texts []string
	for _, line := range lines {
		texts = append(texts, briefText(line))
	}
	return "[" + strings.Join(texts, ", ") + "]"
}

// checkRead wants of ReadProblem what is due by the rules, and answers it.
func checkRead(t *testing.T, lines []string) (impl.Problem, int) {
	t.Helper()
	want, wantCode := dueProblem(lines)
	p, code := impl.ReadProblem(lines)
	if !sameFields(p, want) || code != wantCode {
		t.Errorf("ReadProblem(%s) = %s, %d; want %s, %d", briefLines(lines), briefProblem(p), code, briefProblem(want), wantCode)
	}
	if right := impl.ProblemOK(p); right != (code == impl.OK) {
		t.Errorf("ReadProblem(%s) = %s, %d: ProblemOK is %v", briefLines(lines), briefProblem(p), code, right)
	}
	return p, code
}

// checkReadCode wants the code that the test tells, too, so that the test does not rest on the rules as they are told above alone.
func checkReadCode(t *testing.T, lines []string, code int) {
	t.Helper()
	if _, got := checkRead(t, lines); got != code {
		t.Errorf("ReadProblem(%s): code %d; want %d", briefLines(lines), got, code)
	}
}

// checkProblem wants of a right problem these lines, and the problem back from them.
func checkProblem(t *testing.T, p impl.Problem, want []string) {
	t.Helper()
	if !impl.ProblemOK(p) || !dueProblemRight(p) {
		t.Errorf("ProblemOK(%s) = %v; due is %v", briefProblem(p), impl.ProblemOK(p), dueProblemRight(p))
	}
	if lines, code := impl.ProblemText(p); !slices.Equal(lines, want) || code != impl.OK {
		t.Errorf("ProblemText(%s) = %s, %d; want %s", briefProblem(p), briefLines(lines), code, briefLines(want))
	}
	back, code := impl.ReadProblem(want)
	if code != impl.OK || !sameFields(back, p) || !impl.SameProblem(back, p) || !impl.SameProblem(p, back) {
		t.Errorf("ReadProblem(%s) = %s, %d; want %s", briefLines(want), briefProblem(back), code, briefProblem(p))
	}
	if box, code := impl.HasBox(p); box != (len(want) == 7) || code != impl.OK {
		t.Errorf("HasBox(%s) = %v, %d", briefProblem(p), box, code)
	}
}

// boxLines are those of a problem with a box, in the order in which they are told.
func boxLines() []string {
	return []string{"minimize (x0 - 3)^2 + (2 * (x1 + 1)^2)", "start 1/2 0", "low 0 -1", "high 5 5", "solver project", "eps 1/100", "limits 5 20"}
}

func freeLines() []string {
	return slices.Delete(boxLines(), 2, 4)
}

// with has another line in the place of that with the same first word.
func with(lines []string, others ...string) []string {
	list := slices.Clone(lines)
	for _, other := range others {
		word, _, _ := strings.Cut(other, " ")
		list[slices.IndexFunc(list, func(line string) bool { return strings.HasPrefix(line, word+" ") })] = other
	}
	return list
}

func TestProblemConstants(t *testing.T) {
	if impl.SoDescent != 1 || impl.SoConjug != 2 || impl.SoProject != 3 || impl.SoNewton != 4 || impl.MaxIter != 6 || impl.MaxBack != 30 {
		t.Error("a constant of chapter 10 is another")
	}
}

func TestSolverWord(t *testing.T) {
	words := map[int]string{1: "descent", 2: "conjugate", 3: "project", 4: "newton"}
	for _, n := range append(odd(), -5, -4, -3, -2, 5, 6, 7, 8, 9, 100, 256+1, 1<<32+1) {
		word, code := impl.SolverWord(n)
		if want, there := words[n]; there && (word != want || code != impl.OK) || !there && (word != "" || code != impl.ErrRange) {
			t.Errorf("SolverWord(%d) = %q, %d", n, word, code)
		}
	}
	for n, want := range words {
		if word, code := impl.SolverWord(n); word != want || code != impl.OK {
			t.Errorf("SolverWord(%d) = %q, %d; want %q", n, word, code, want)
		}
		p, code := checkRead(t, with(freeLines(), "solver "+want))
		if p.Solver != n || code != impl.OK {
			t.Errorf("ReadProblem of %s: solver %d, code %d", want, p.Solver, code)
		}
	}
}

func TestProblemsOfOrdinaryLines(t *testing.T) {
	for name, c := range map[string]struct{ said, want []string }{
		"as they are told":           {boxLines(), boxLines()},
		"without a box":              {freeLines(), freeLines()},
		"other brackets":             {with(boxLines(), "minimize (x0-3)^2+2*(x1+1)^2"), boxLines()},
		"blanks around and between":  {[]string{"  minimize  ( x0 - 3 ) ^ 2+(2*(x1+1)^2)   ", "start    1/2   0 ", " low 0    -1", "high  5 5  ", "   solver   project ", " eps   1/100 ", "limits  5    20  "}, boxLines()},
		"blanks alone between":       {[]string{"", freeLines()[0], " ", freeLines()[1], "    ", freeLines()[2], "", "", freeLines()[3], freeLines()[4], "  "}, freeLines()},
		"a box with another solver":  {with(boxLines(), "solver newton"), with(boxLines(), "solver newton")},
		"no box with project":        {freeLines(), with(freeLines(), "solver project")},
		"a number alone":             {[]string{"limits 0 0", "eps 0", "solver descent", "start 0", "minimize 0"}, []string{"minimize 0", "start 0", "solver descent", "eps 0", "limits 0 0"}},
		"four axes":                  {[]string{"minimize x3", "start 1 -2 3/4 -5/6", "solver conjugate", "eps 7", "limits 6 30"}, []string{"minimize x3", "start 1 -2 3/4 -5/6", "solver conjugate", "eps 7", "limits 6 30"}},
		"a box of one point":         {with(boxLines(), "low 1/2 0", "high 1/2 0"), with(boxLines(), "low 1/2 0", "high 1/2 0")},
		"more axes than F asks for":  {with(freeLines(), "start 1 2 3"), with(freeLines(), "start 1 2 3")},
		"what is over 0 at Start":    {with(freeLines(), "minimize x0/x1"), with(freeLines(), "minimize x0 / x1")},
		"an Eps that is large":       {with(freeLines(), "eps "+top160()), with(freeLines(), "eps "+top160())},
		"numbers as long as may be":  {with(freeLines(), "start -"+top160()+" 1/"+top160()), with(freeLines(), "start -"+top160()+" 1/"+top160())},
		"no blank needs to be alone": {with(freeLines(), "minimize x0-3*-x1^2"), with(freeLines(), "minimize x0 - (3 * -x1^2)")},
	} {
		p, code := checkRead(t, c.said)
		if code != impl.OK {
			t.Errorf("%s: code %d", name, code)
		}
		checkProblem(t, p, c.want)
	}
}

// What is told of a problem is held against its own fields, one by one.
func TestFieldsOfAProblem(t *testing.T) {
	p, code := impl.ReadProblem(boxLines())
	want := impl.Problem{
		F: exprOf(t, "(x0 - 3)^2 + 2 * (x1 + 1)^2"), Start: []impl.Rat{ratOfInts(1, 2), ratOfInts(0, 1)}, Low: vecOfInts(0, -1), High: vecOfInts(5, 5),
		Solver: impl.SoProject, Eps: ratOfInts(1, 100), Iter: 5, Back: 20,
	}
	if code != impl.OK || !sameFields(p, want) {
		t.Errorf("ReadProblem = %s, %d; want %s", briefProblem(p), code, briefProblem(want))
	}
	checkProblem(t, want, boxLines())
	want.Low, want.High = nil, nil
	checkProblem(t, want, with(freeLines(), "solver project"))
	want.Low, want.High = []impl.Rat{}, []impl.Rat{}
	checkProblem(t, want, with(freeLines(), "solver project"))
}

// noisyProblem is a right one, with the lines that are due of it.
func noisyProblem(noise *rand.Rand, room int) (impl.Problem, []string) {
	w := grownTwig(noise, room, impl.MaxDeep)
	least := max(w.axes(), 1)
	p := impl.Problem{F: w.expr(), Solver: 1 + noise.Intn(4), Eps: noisyRat(noise), Iter: noise.Intn(7), Back: noise.Intn(31)}
	p.Start = noisyVec(noise, least+noise.Intn(impl.MaxDim+1-least))
	p.Eps.Neg = false
	lines := []string{"minimize " + w.text(), "start " + told(p.Start)}
	if noise.Intn(2) == 0 {
		for _, r := range p.Start {
			p.Low, p.High = append(p.Low, beside(noise, r, -1)), append(p.High, beside(noise, r, 1))
		}
		lines = append(lines, "low "+told(p.Low), "high "+told(p.High))
	}
	return p, append(lines, "solver "+[]string{"descent", "conjugate", "project", "newton"}[p.Solver-1], "eps "+told([]impl.Rat{p.Eps}), fmt.Sprint("limits ", p.Iter, " ", p.Back))
}

// beside is r, or below or above it by a little or by a lot.
func beside(noise *rand.Rand, r impl.Rat, sign int64) impl.Rat {
	step := []*big.Rat{new(big.Rat), big.NewRat(sign, 1), big.NewRat(sign, 1000000007), big.NewRat(sign*1000000007, 3)}[noise.Intn(4)]
	if sum := ratOfBig(step.Add(step, bigRatOf(r))); !tooLong(sum) {
		return sum
	}
	return r
}

func TestProblemsReadBackFromTheirLines(t *testing.T) {
	noise := rand.New(rand.NewSource(100))
	seen := map[string]int{}
	for i := range 1200 {
		p, want := noisyProblem(noise, 1+i%impl.MaxNodes/(1+i%5*3))
		checkProblem(t, p, want)
		seen[fmt.Sprint("lines ", len(want))]++
		seen[fmt.Sprint("axes ", len(p.Start))]++
		turned := slices.Clone(want)
		noise.Shuffle(len(turned), func(i, j int) { turned[i], turned[j] = turned[j], turned[i] })
		for i := range turned {
			turned[i] = strings.ReplaceAll(turned[i], " ", strings.Repeat(" ", 1+noise.Intn(3)))
		}
		turned = slices.Insert(turned, noise.Intn(len(turned)), "", "   ")
		if back, code := checkRead(t, turned); code != impl.OK || !sameFields(back, p) || !impl.SameProblem(back, p) {
			t.Errorf("ReadProblem(%s) = %s, %d; want %s", briefLines(turned), briefProblem(back), code, briefProblem(p))
		}
	}
	for _, kind := range []string{"lines 5", "lines 7", "axes 1", "axes 2", "axes 3", "axes 4"} {
		if seen[kind] < 50 {
			t.Errorf("problems that were read: %v", seen)
		}
	}
}

// The longest and the deepest expressions, and the longest numbers, are read back, too.
func TestLongProblemsReadBackFromTheirLines(t *testing.T) {
	var twigs []*twig
	for count := 1; count <= impl.MaxNodes; count++ {
		twigs = append(twigs, evenTwig(count))
	}
	for digits := range 256 {
		twigs = append(twigs, chainTwig(impl.MaxDeep-1, digits*977, 4))
	}
	long := sampleRats()
	for i, w := range twigs {
		x := []impl.Rat{long[i%len(long)], long[(i+1)%len(long)], long[(i*5+2)%len(long)], long[(i*3+7)%len(long)]}
		eps := long[(i*7)%len(long)]
		eps.Neg = false
		p := impl.Problem{F: w.expr(), Start: x, Low: x, High: x, Solver: 1 + i%4, Eps: eps, Iter: i % 7, Back: i % 31}
		checkProblem(t, p, []string{
			"minimize " + w.text(), "start " + told(x), "low " + told(x), "high " + told(x),
			"solver " + []string{"descent", "conjugate", "project", "newton"}[i%4], "eps " + told([]impl.Rat{eps}), fmt.Sprint("limits ", i%7, " ", i%31),
		})
	}
}

// eachOrder calls with the list in every order.
func eachOrder(list []string, count int, call func(list []string)) {
	if count < 2 {
		call(list)
		return
	}
	for i := range count {
		list[i], list[count-1] = list[count-1], list[i]
		eachOrder(list, count-1, call)
		list[i], list[count-1] = list[count-1], list[i]
	}
}

func TestLinesInEveryOrder(t *testing.T) {
	for _, lines := range [][]string{boxLines(), freeLines(), boxLines()[:6], freeLines()[:4]} {
		want, code := checkRead(t, lines)
		if code != impl.OK {
			t.Fatalf("ReadProblem(%s): code %d", briefLines(lines), code)
		}
		orders := map[string]bool{}
		eachOrder(slices.Clone(lines), len(lines), func(list []string) {
			orders[strings.Join(list, "\n")] = true
			if p, code := impl.ReadProblem(list); code != impl.OK || !sameFields(p, want) {
				t.Errorf("ReadProblem(%s) = %s, %d", briefLines(list), briefProblem(p), code)
			}
		})
		if due := map[int]int{4: 24, 5: 120, 6: 720, 7: 5040}[len(lines)]; len(orders) != due {
			t.Errorf("%d orders; want %d", len(orders), due)
		}
	}
}

// Of all choices of lines only four are a problem: all of them, and all but both bounds, each with the limits or without.
func TestLinesThatAreMissing(t *testing.T) {
	for _, all := range [][]string{boxLines(), with(boxLines(), "limits 0 0", "eps 0"), with(boxLines(), "minimize 0", "start 0", "low 0", "high 0")} {
		right := 0
		for choice := range 1 << len(all) {
			var lines []string
			for i, line := range all {
				if choice>>i&1 == 1 {
					lines = append(lines, line)
				}
			}
			code := impl.ErrBad
			if needed := choice & 0b0111111; needed == 0b0111111 || needed == 0b0110011 {
				code = impl.OK
				right++
			}
			checkReadCode(t, lines, code)
			slices.Reverse(lines)
			checkReadCode(t, append([]string{"", "  "}, lines...), code)
		}
		if right != 4 {
			t.Errorf("%d choices of lines are right", right)
		}
	}
	for i, line := range freeLines() {
		code := impl.ErrBad
		if strings.HasPrefix(line, "limits ") {
			code = impl.OK
		}
		checkReadCode(t, slices.Delete(freeLines(), i, i+1), code)
		checkReadCode(t, freeLines()[:i], code)
	}
}

// What no line tells is zero, and Iter 0 and Back 0 are right: the problem is the same as with these told.
func TestLimitsThatNoLineTells(t *testing.T) {
	noise := rand.New(rand.NewSource(107))
	for i := range 300 {
		p, lines := noisyProblem(noise, 1+i%20)
		p.Iter, p.Back = 0, 0
		rest := lines[:len(lines)-1]
		whole := append(slices.Clone(rest), "limits 0 0")
		checkProblem(t, p, whole)
		bare := slices.Clone(rest)
		noise.Shuffle(len(bare), func(i, j int) { bare[i], bare[j] = bare[j], bare[i] })
		got, code := checkRead(t, slices.Insert(bare, noise.Intn(len(bare)), "", "  "))
		if code != impl.OK || got.Iter != 0 || got.Back != 0 || !sameFields(got, p) || !impl.SameProblem(got, p) {
			t.Errorf("ReadProblem(%s) = %s, %d; want %s", briefLines(rest), briefProblem(got), code, briefProblem(p))
		}
		if said, code := impl.ProblemText(got); code != impl.OK || !slices.Equal(said, whole) {
			t.Errorf("ProblemText(%s) = %s, %d; want %s", briefProblem(got), briefLines(said), code, briefLines(whole))
		}
	}
	// A line that is there must be right by its form, and what else is wrong is told as with the limits.
	checkReadCode(t, append(freeLines()[:4], "limits"), impl.ErrForm)
	checkReadCode(t, append(freeLines()[:4], "limits 0"), impl.ErrForm)
	checkReadCode(t, append(freeLines()[:4], "low 0 -1"), impl.ErrBad)
	checkReadCode(t, append(freeLines()[:4], freeLines()[0]), impl.ErrMany)
	checkReadCode(t, with(freeLines()[:4], "start 1"), impl.ErrBad)
	checkReadCode(t, with(freeLines()[:4], "eps -1"), impl.ErrBad)
	checkReadCode(t, with(freeLines()[:4], "solver none"), impl.ErrSolver)
}

func TestLinesThatSayNothing(t *testing.T) {
	for _, lines := range [][]string{nil, {}, {""}, {" "}, {"", "   ", " "}, slices.Repeat([]string{""}, impl.MaxList), slices.Repeat([]string{"  "}, impl.MaxList)} {
		checkReadCode(t, lines, impl.ErrBad)
	}
	for i := range len(boxLines()) + 1 {
		for _, blanks := range []string{"", " ", strings.Repeat(" ", 1000), strings.Repeat(" ", impl.MaxText+1)} {
			checkReadCode(t, slices.Insert(boxLines(), i, blanks), impl.OK)
			checkReadCode(t, slices.Insert(boxLines(), i, blanks, blanks), impl.OK)
		}
	}
}

// What stands there twice is ErrMany when the second one is come to, also if it is alike, or wrong.
func TestLinesThatAreThereTwice(t *testing.T) {
	for _, lines := range [][]string{boxLines(), freeLines()} {
		for i, line := range lines {
			word, _, _ := strings.Cut(line, " ")
			for _, second := range []string{line, word, "  " + word + "  ", word + " ?", word + " x0 +", word + " 1 2 3 4 5 6", word + " newton descent", word + " 1"} {
				for at := i + 1; at <= len(lines); at++ {
					checkReadCode(t, slices.Insert(slices.Clone(lines), at, second), impl.ErrMany)
				}
				checkReadCode(t, []string{line, second}, impl.ErrMany)
				checkReadCode(t, []string{line, "", second, "what 5"}, impl.ErrMany)
			}
			checkReadCode(t, []string{line, "what 5", line}, impl.ErrForm)
			checkReadCode(t, slices.Insert(slices.Clone(lines), i, "what 5"), impl.ErrForm)
		}
		checkReadCode(t, append(slices.Clone(lines), lines...), impl.ErrMany)
	}
	// One bound there twice is no box.
	checkReadCode(t, slices.Insert(freeLines(), 2, "low 0 0", "low 5 5"), impl.ErrMany)
	checkReadCode(t, slices.Insert(freeLines(), 2, "high 0 0", "high 5 5"), impl.ErrMany)
}

// Each number of the start from -2 to 2, each bound likewise, or none: all of one length, and of others.
func TestStartAndItsBox(t *testing.T) {
	seen := map[int]int{}
	read := func(start, low, high string) {
		lines := with(freeLines(), "minimize 5", "start "+start)
		if low != "" {
			lines = append(lines, "low "+low)
		}
		if high != "" {
			lines = append(lines, "high "+high)
		}
		_, code := checkRead(t, lines)
		seen[code]++
	}
	numbers := []string{"-2", "-1", "-1/2", "0", "1/3", "1", "2"}
	for _, x := range numbers {
		for _, low := range append(numbers, "") {
			for _, high := range append(numbers, "") {
				read(x, low, high)
				for _, more := range []string{" 0", " 1 -1", " 0 0 0"} {
					read("0"+more+" "+x, strings.TrimSuffix("-1"+more+" "+low, " "), strings.TrimSuffix("1"+more+" "+high, " "))
					read(x+more, strings.TrimPrefix(low+more, " "), strings.TrimPrefix(high+more, " "))
				}
			}
		}
	}
	if seen[impl.OK] < 100 || seen[impl.ErrBad] < 100 {
		t.Errorf("codes that were due: %v", seen)
	}
	for name, c := range map[string]struct {
		start, low, high string
		code             int
	}{
		"within":                       {"start 1/2 0", "low 0 -1", "high 5 5", impl.OK},
		"on both low bounds":           {"start 0 -1", "low 0 -1", "high 5 5", impl.OK},
		"on both high bounds":          {"start 5 5", "low 0 -1", "high 5 5", impl.OK},
		"just below":                   {"start -1/1000000 0", "low 0 -1", "high 5 5", impl.ErrBad},
		"just above":                   {"start 1 5000001/1000000", "low 0 -1", "high 5 5", impl.ErrBad},
		"low above high":               {"start 1 1", "low 2 0", "high 0 2", impl.ErrBad},
		"low above high, on the high":  {"start 0 0", "low 1 0", "high 0 0", impl.ErrBad},
		"low above high, on the low":   {"start 1 0", "low 1 0", "high 0 0", impl.ErrBad},
		"shorter low":                  {"start 1 1", "low 0", "high 5 5", impl.ErrBad},
		"shorter high":                 {"start 1 1", "low 0 0", "high 5", impl.ErrBad},
		"shorter bounds":               {"start 1 1", "low 0", "high 5", impl.ErrBad},
		"longer low":                   {"start 1 1", "low 0 0 0", "high 5 5", impl.ErrBad},
		"longer high":                  {"start 1 1", "low 0 0", "high 5 5 5", impl.ErrBad},
		"longer bounds":                {"start 1 1", "low 0 0 0", "high 5 5 5", impl.ErrBad},
		"bounds of five":               {"start 1 1", "low 0 0 0 0 0", "high 5 5 5 5 5", impl.ErrBad},
		"all of five":                  {"start 1 1 1 1 1", "low 0 0 0 0 0", "high 5 5 5 5 5", impl.ErrBad},
		"all of one, fewer than asked": {"start 1", "low 0", "high 5", impl.ErrBad},
		"all of four":                  {"start 1 1 1 1", "low 0 0 0 0", "high 5 5 5 5", impl.OK},
	} {
		lines := with(boxLines(), c.start, c.low, c.high)
		if _, code := checkRead(t, lines); code != c.code {
			t.Errorf("%s: code %d; want %d", name, code, c.code)
		}
	}
}

func TestStartAsLongAsFAsks(t *testing.T) {
	for axes := range impl.MaxDim + 1 {
		texts := []string{"7"}
		if axes > 0 {
			texts = []string{fmt.Sprint("x", axes-1), fmt.Sprint("x0 + x", axes-1), fmt.Sprint("x", axes-1, " * x0^0"), fmt.Sprint("0 * x", axes-1)}
		}
		for _, text := range texts {
			for length := 1; length <= 12; length++ {
				code := impl.ErrBad
				if length >= axes && length <= impl.MaxDim {
					code = impl.OK
				}
				checkReadCode(t, with(freeLines(), "minimize "+text, "start"+strings.Repeat(" 3", length)), code)
			}
		}
	}
	checkReadCode(t, with(freeLines(), "start"+strings.Repeat(" 3", impl.MaxList+1)), impl.ErrBad)
}

func TestEpsOfAProblem(t *testing.T) {
	for text, code := range map[string]int{
		"0": impl.OK, "1": impl.OK, "1/100": impl.OK, "7/3": impl.OK, "1/" + top160(): impl.OK, top160(): impl.OK,
		"-1": impl.ErrBad, "-1/1000000000": impl.ErrBad, "-" + top160(): impl.ErrBad, "-1/" + top160(): impl.ErrBad,
		"-0": impl.ErrForm, "0/1": impl.ErrForm, "1 2": impl.ErrForm, "1/2 1/2": impl.ErrForm, "0 0": impl.ErrForm, "x": impl.ErrForm, "1/0": impl.ErrForm,
	} {
		checkReadCode(t, with(freeLines(), "eps "+text), code)
		checkReadCode(t, with(boxLines(), "eps "+text), code)
	}
}

func TestLimitsOfAProblem(t *testing.T) {
	for iter := -2; iter <= 9; iter++ {
		for back := -2; back <= 33; back++ {
			code := impl.ErrBad
			if iter >= 0 && iter <= 6 && back >= 0 && back <= 30 {
				code = impl.OK
			}
			checkReadCode(t, with(freeLines(), fmt.Sprint("limits ", iter, " ", back)), code)
		}
	}
	// Each number is right by its form, whatever it is, or it is not.
	for text, code := range map[string]int{
		"999999999999999999": impl.ErrBad, "-999999999999999999": impl.ErrBad, "100000000000000000": impl.ErrBad, "-1": impl.ErrBad, "31": impl.ErrBad,
		"1000000000000000000": impl.ErrForm, "-1000000000000000000": impl.ErrForm, "9223372036854775807": impl.ErrForm, "9223372036854775808": impl.ErrForm,
		"-9223372036854775808": impl.ErrForm, "18446744073709551616": impl.ErrForm, "18446744073709551618": impl.ErrForm, strings.Repeat("9", 5000): impl.ErrForm,
		"05": impl.ErrForm, "00": impl.ErrForm, "-0": impl.ErrForm, "-01": impl.ErrForm, "--1": impl.ErrForm, "+1": impl.ErrForm, "+0": impl.ErrForm, "-": impl.ErrForm,
		"1_0": impl.ErrForm, "0x1": impl.ErrForm, "1e0": impl.ErrForm, "1.0": impl.ErrForm, "1/1": impl.ErrForm, "3/2": impl.ErrForm, "x": impl.ErrForm, "x0": impl.ErrForm,
		"1\t": impl.ErrForm, "\t1": impl.ErrForm, "1\n": impl.ErrForm, "1\x00": impl.ErrForm, "\xff": impl.ErrForm, "١": impl.ErrForm, "000000000000000000000001": impl.ErrForm,
		"0": impl.OK, "1": impl.OK, "6": impl.OK,
	} {
		checkReadCode(t, with(freeLines(), "limits "+text+" 3"), code)
		checkReadCode(t, with(freeLines(), "limits 3 "+text), code)
		checkReadCode(t, with(freeLines(), "limits "+text), impl.ErrForm)
		checkReadCode(t, with(freeLines(), "limits 3 3 "+text), impl.ErrForm)
		checkReadCode(t, with(freeLines(), "limits "+text+" x"), impl.ErrForm)
	}
}
