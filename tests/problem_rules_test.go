package tests

import (
	"fmt"
	"math/rand"
	"slices"
	"strings"
	"testing"

	"loop.example/g00615/impl"
)

// Each line has the code that it is at fault by when it is come to, whatever else stands there.
func faultyLines() map[string]int {
	deep := strings.Repeat("(", 12) + "x0" + strings.Repeat(")", 12)
	return map[string]int{
		"minimize": impl.ErrForm, "start": impl.ErrForm, "low": impl.ErrForm, "high": impl.ErrForm, "solver": impl.ErrForm, "eps": impl.ErrForm, "limits": impl.ErrForm,
		"  minimize  ": impl.ErrForm, " start": impl.ErrForm, "low  ": impl.ErrForm, " high ": impl.ErrForm, "   solver ": impl.ErrForm, " eps ": impl.ErrForm, "limits   ": impl.ErrForm,
		"what": impl.ErrForm, "what 5": impl.ErrForm, "Minimize x0": impl.ErrForm, "START 0 0": impl.ErrForm, "minimise x0": impl.ErrForm, "minimizex0": impl.ErrForm, "minimize(x0)": impl.ErrForm,
		"min x0": impl.ErrForm, "starts 0 0": impl.ErrForm, "star 0 0": impl.ErrForm, "lower 0 0": impl.ErrForm, "hig 5 5": impl.ErrForm, "solve newton": impl.ErrForm, "epsilon 1": impl.ErrForm,
		"limit 5 20": impl.ErrForm, "iter 5": impl.ErrForm, "newton": impl.ErrForm, "x0": impl.ErrForm, "5": impl.ErrForm, "#": impl.ErrForm, "# minimize x0": impl.ErrForm, "run": impl.ErrForm,
		"problem": impl.ErrForm, "start: 0 0": impl.ErrForm, "start=0 0": impl.ErrForm, "start,0 0": impl.ErrForm, "\"start\" 0 0": impl.ErrForm,
		"\tstart 0 0": impl.ErrForm, "start\t0 0": impl.ErrForm, "start\t 0 0": impl.ErrForm, "\nstart 0 0": impl.ErrForm, "start 0 0\n": impl.ErrForm, "start 0 0\r": impl.ErrForm, "start 0\t0": impl.ErrForm,
		"\t": impl.ErrForm, "\n": impl.ErrForm, " \r ": impl.ErrForm, "\x00": impl.ErrForm, "\xff": impl.ErrForm, "\u00a0": impl.ErrForm, "\u2003start 0 0": impl.ErrForm, "\x00start 0 0": impl.ErrForm, "start\x00 0 0": impl.ErrForm,
		"start x 0": impl.ErrForm, "start 0 x0": impl.ErrForm, "start 0,0": impl.ErrForm, "start 0 0,": impl.ErrForm, "start (0 0)": impl.ErrForm, "start - 1 0": impl.ErrForm, "start 1 / 2 0": impl.ErrForm,
		"start 1 2 3 4 5 x": impl.ErrForm, "start x 2 3 4 5": impl.ErrForm, "low 0 0.5": impl.ErrForm, "high 5 +5": impl.ErrForm, "low 2/4 0": impl.ErrForm, "high 05 5": impl.ErrForm, "low -0 0": impl.ErrForm,
		"start 0 " + top160() + "9": impl.ErrForm, "low 1/" + top160() + "9 0": impl.ErrForm, "eps " + top160() + "9": impl.ErrForm, "eps " + strings.Repeat("9", impl.MaxText+1): impl.ErrForm,
		"start 0 " + strings.Repeat("9", impl.MaxText+1): impl.ErrForm, "limits 0 " + strings.Repeat("9", impl.MaxText+1): impl.ErrForm, "eps 1 2": impl.ErrForm, "eps 1 x": impl.ErrForm, "eps x": impl.ErrForm,
		"limits 5": impl.ErrForm, "limits 5 20 1": impl.ErrForm, "limits x 20": impl.ErrForm, "limits 5 x": impl.ErrForm, "limits 5 1/2": impl.ErrForm, "limits 5/1 20": impl.ErrForm,
		"minimize x0 +": impl.ErrForm, "minimize x9": impl.ErrForm, "minimize x0 x1": impl.ErrForm, "minimize x0 = 3": impl.ErrForm, "minimize\tx0": impl.ErrForm, "minimize x0\t": impl.ErrForm, "minimize 01": impl.ErrForm,
		"minimize x 0": impl.ErrForm, "minimize 1000000000": impl.ErrForm, "minimize x0^9": impl.ErrForm, "minimize (x0": impl.ErrForm, "minimize x0)": impl.ErrForm, "minimize minimize x0": impl.ErrForm,
		"minimize 1" + strings.Repeat(" + 1", 200): impl.ErrMany, "minimize 1" + strings.Repeat("+1", 30): impl.ErrMany, "minimize " + strings.Repeat("(", 401): impl.ErrMany,
		"minimize " + deep: impl.ErrDeep, "minimize " + strings.Repeat("- ", 12) + "x0": impl.ErrDeep, "minimize 1" + strings.Repeat("+1", 12): impl.ErrDeep, "minimize " + strings.Repeat("(", 12): impl.ErrDeep,
		"solver none": impl.ErrSolver, "solver Newton": impl.ErrSolver, "solver newto": impl.ErrSolver, "solver newtons": impl.ErrSolver, "solver 4": impl.ErrSolver, "solver 0": impl.ErrSolver, "solver newton x": impl.ErrSolver,
		"solver newton newton": impl.ErrSolver, "solver descent conjugate": impl.ErrSolver, "solver x newton": impl.ErrSolver, "solver newton\t": impl.ErrSolver, "solver newton,": impl.ErrSolver, "solver solver": impl.ErrSolver,
		"solver conjug": impl.ErrSolver, "solver projected": impl.ErrSolver, "solver \"\"": impl.ErrSolver, "solver \x00": impl.ErrSolver, "solver " + strings.Repeat("newton", impl.MaxText): impl.ErrSolver,
	}
}

// lateLines are right where they stand, but no problem is right with them.
func lateLines() []string {
	return []string{
		"start 1", "start 6 0", "start 0 6", "start -1 0", "start 0 0 0 0 0", "start 1/2 0 1", "low 0", "low 1 0", "low 0 1", "high 0 5", "high 5 -1", "high 5", "low 6 6", "high 5 5 5 5 5",
		"minimize x2", "minimize x3 * 0", "eps -1", "eps -1/3", "limits 7 20", "limits 5 31", "limits -1 20", "limits 5 -1", "limits 999999999999999999 0",
	}
}

func TestFaultyLines(t *testing.T) {
	for line, code := range faultyLines() {
		checkReadCode(t, []string{line}, code)
		checkReadCode(t, []string{"", "  ", line, "what 5"}, code)
		word, _, _ := strings.Cut(strings.TrimLeft(line, " "), " ")
		for i, other := range boxLines() {
			rest := slices.Delete(boxLines(), i, i+1)
			if first, _, _ := strings.Cut(other, " "); first == word {
				checkReadCode(t, append(slices.Clone(rest), line), code)
				checkReadCode(t, append([]string{line}, rest...), code)
				checkReadCode(t, slices.Insert(slices.Clone(rest), 3, line), code)
				// A word that was there comes ahead of all else that is wrong with a line.
				checkReadCode(t, append(boxLines(), line), impl.ErrMany)
			}
		}
		checkReadCode(t, append([]string{line}, boxLines()...), code)
	}
	for _, line := range lateLines() {
		checkReadCode(t, []string{line}, impl.ErrBad)
		checkReadCode(t, with(boxLines(), line), impl.ErrBad)
		checkReadCode(t, append(with(boxLines(), line), "what 5"), impl.ErrForm)
		checkReadCode(t, append(with(boxLines(), line), line), impl.ErrMany)
	}
}

// The line that comes first gives the code, whatever the code is; what is wrong with the whole comes last.
func TestFaultyLinesInTurn(t *testing.T) {
	faulty := faultyLines()
	var list []string
	for line := range faulty {
		list = append(list, line)
	}
	slices.Sort(list)
	for _, first := range list {
		for _, second := range list {
			code := faulty[first]
			checkReadCode(t, []string{first, second}, code)
			checkReadCode(t, []string{first, "solver newton", "solver newton", second}, code)
		}
		for _, late := range lateLines() {
			word, _, _ := strings.Cut(late, " ")
			code := faulty[first]
			if strings.HasPrefix(strings.TrimLeft(first, " ")+" ", word+" ") {
				code = impl.ErrMany
			}
			checkReadCode(t, []string{late, first}, code)
		}
	}
}

// Each line has two faults, the one that comes first named ahead.
func TestReadProblemCodesByName(t *testing.T) {
	longList := append(slices.Repeat([]string{""}, impl.MaxList), "what")
	for name, c := range map[string]struct {
		lines []string
		code  int
	}{
		"most lines, all of blanks":               {longList[:impl.MaxList], impl.ErrBad},
		"too many lines, no such word":            {longList, impl.ErrLong},
		"too many lines, the first at fault":      {append([]string{"what"}, longList...), impl.ErrLong},
		"too many lines, a right problem":         {append(boxLines(), longList[:impl.MaxList]...), impl.ErrLong},
		"most lines, a right problem":             {append(boxLines(), longList[:impl.MaxList-7]...), impl.OK},
		"most lines, no such word":                {longList[1:], impl.ErrForm},
		"a word twice, bare":                      {[]string{"eps 1", "eps"}, impl.ErrMany},
		"a bare word twice":                       {[]string{"eps", "eps"}, impl.ErrForm},
		"a word twice, no expression":             {[]string{"minimize x0", "minimize x0 +"}, impl.ErrMany},
		"no expression, a word twice":             {[]string{"minimize x0 +", "minimize x0"}, impl.ErrForm},
		"a word twice, no solver":                 {[]string{"solver newton", "solver none"}, impl.ErrMany},
		"no solver, a word twice":                 {[]string{"solver none", "solver newton"}, impl.ErrSolver},
		"form, then no solver":                    {[]string{"start x", "solver none"}, impl.ErrForm},
		"no solver, then form":                    {[]string{"solver none", "start x"}, impl.ErrSolver},
		"deep, then many":                         {[]string{"minimize " + strings.Repeat("(", 12), "start 1", "start 1"}, impl.ErrDeep},
		"a word twice, then deep":                 {[]string{"start 1", "start 1", "minimize " + strings.Repeat("(", 12)}, impl.ErrMany},
		"not right, then no solver":               {[]string{"eps -1", "limits 9 99", "start 1 2 3 4 5 6", "solver none"}, impl.ErrSolver},
		"not right, then form":                    {append(with(freeLines(), "limits 7 20"), "low"), impl.ErrForm},
		"an unknown word twice":                   {[]string{"what 5", "what 5"}, impl.ErrForm},
		"expression that is empty":                {with(freeLines(), "minimize ()"), impl.ErrForm},
		"solver alone":                            {append(freeLines()[:2], "solver"), impl.ErrForm},
		"expression with a later word":            {with(freeLines(), "minimize x0 start 0 0"), impl.ErrForm},
		"form ahead of many tokens in a line":     {with(freeLines(), "minimize ! "+strings.Repeat("(", 401)), impl.ErrForm},
		"many tokens ahead of form in a line":     {with(freeLines(), "minimize "+strings.Repeat("(", 401)+" !"), impl.ErrMany},
		"form ahead of deep in a line":            {with(freeLines(), "minimize x0 + * "+strings.Repeat("(", 12)), impl.ErrForm},
		"deep ahead of form in a line":            {with(freeLines(), "minimize "+strings.Repeat("(", 12)+" *"), impl.ErrDeep},
		"many nodes ahead of nodes deep":          {with(freeLines(), "minimize 1"+strings.Repeat(" + 1", 30)), impl.ErrMany},
		"limits missing":                          {freeLines()[:4], impl.OK},
		"limits missing, with a box":              {boxLines()[:6], impl.OK},
		"limits of blanks alone":                  {append(freeLines()[:4], "      "), impl.OK},
		"limits and eps missing":                  {freeLines()[:3], impl.ErrBad},
		"limits and start missing":                {slices.Delete(freeLines()[:4], 1, 2), impl.ErrBad},
		"limits and expression missing":           {freeLines()[1:4], impl.ErrBad},
		"limits and solver missing":               {slices.Delete(freeLines()[:4], 2, 3), impl.ErrBad},
		"limits and one bound missing":            {slices.Delete(boxLines()[:6], 2, 3), impl.ErrBad},
		"limits missing, no such word":            {append(freeLines()[:4], "what 5"), impl.ErrForm},
		"eps missing":                             {slices.Delete(freeLines(), 3, 4), impl.ErrBad},
		"one bound missing":                       {slices.Delete(boxLines(), 2, 3), impl.ErrBad},
		"the other bound missing":                 {slices.Delete(boxLines(), 3, 4), impl.ErrBad},
		"one bound missing, another at fault":     {with(slices.Delete(boxLines(), 2, 3), "high x 5"), impl.ErrForm},
		"one bound missing, Start long as it was": {append(freeLines(), "low 0 0"), impl.ErrBad},
	} {
		if _, code := checkRead(t, c.lines); code != c.code {
			t.Errorf("%s: code %d; want %d", name, code, c.code)
		}
	}
}

// What ParseExpr says of a text it says of it behind minimize, too.
func TestExpressionsOfLines(t *testing.T) {
	seen := map[int]int{}
	noise := rand.New(rand.NewSource(101))
	texts := slices.Clone(sampleExprTexts())
	for range 3000 {
		texts = append(texts, noisyText(noise, []string{"x0", "x1", "1", "+", "-", "*", "/", "^", "2", "(", ")"}))
	}
	for range 300 {
		texts = append(texts, grownTwig(noise, 60, 13).text(), strings.Repeat("(", noise.Intn(15))+"x0", evenTwig(50+noise.Intn(20)).text())
	}
	for _, text := range texts {
		if len(text) > impl.MaxText {
			continue
		}
		e, code := impl.ParseExpr(text)
		p, got := checkRead(t, with(freeLines(), "minimize "+text, "start 0 0 0 0"))
		if got != code || code == impl.OK && !impl.SameExpr(p.F, e) {
			t.Errorf("ReadProblem of minimize %s = %s, %d; ParseExpr has %d", briefText(text), briefProblem(p), got, code)
		}
		seen[code]++
	}
	for _, code := range []int{impl.OK, impl.ErrForm, impl.ErrMany, impl.ErrDeep} {
		if seen[code] < 10 {
			t.Errorf("codes that were due: %v", seen)
		}
	}
}

// MaxText is not asked of what stands within a list: neither of a line, nor of a part of it.
func TestLongLines(t *testing.T) {
	blanks := strings.Repeat(" ", impl.MaxText+1)
	want, _ := checkRead(t, boxLines())
	for i, line := range boxLines() {
		word, rest, _ := strings.Cut(line, " ")
		for _, long := range []string{blanks + line, line + blanks, word + blanks + rest, strings.ReplaceAll(line, " ", blanks)} {
			lines := boxLines()
			lines[i] = long
			if p, code := checkRead(t, lines); code != impl.OK || !sameFields(p, want) {
				t.Errorf("ReadProblem of %s: code %d", briefText(long), code)
			}
		}
	}
	long := impl.MaxText + 1
	for line, code := range map[string]int{
		strings.Repeat("x", long):                           impl.ErrForm,
		"what " + strings.Repeat("5 ", long):                impl.ErrForm,
		"start " + strings.Repeat("5 ", impl.MaxText):       impl.ErrBad,
		"start " + strings.Repeat("5 ", impl.MaxText) + ".": impl.ErrForm,
		"eps " + strings.Repeat("5 ", long):                 impl.ErrForm,
		"limits " + strings.Repeat("5 ", long):              impl.ErrForm,
		"solver " + strings.Repeat("newton ", long):         impl.ErrSolver,
	} {
		checkReadCode(t, []string{line}, code)
	}
	for _, text := range []string{"x0" + strings.Repeat("+x0", long), strings.Repeat("(", long), strings.Repeat("- ", long)} {
		if p, code := impl.ReadProblem(with(freeLines(), "minimize "+text)); code != impl.ErrMany || !sameFields(p, impl.Problem{}) {
			t.Errorf("ReadProblem of an expression of %d bytes = %s, %d; want ErrMany", len(text), briefProblem(p), code)
		}
	}
	for _, text := range []string{strings.Repeat("9", long), "x0 " + strings.Repeat("!", long), "x0" + blanks + "!", "1" + strings.Repeat("0", long)} {
		if p, code := impl.ReadProblem(with(freeLines(), "minimize "+text)); code != impl.ErrForm || !sameFields(p, impl.Problem{}) {
			t.Errorf("ReadProblem of an expression of %d bytes = %s, %d; want ErrForm", len(text), briefProblem(p), code)
		}
	}
}

// What chapter 3 takes for a rational's text is taken in each place, and nothing else.
func TestNumbersOfLines(t *testing.T) {
	texts := []string{
		"0", "1", "-1", "7/3", "-7/3", "10000", "1/10000", "-0", "0/1", "0/2", "1/0", "-1/0", "1/1", "3/1", "2/4", "-6/4", "1/", "/2", "1/-2", "-1/-2", "+1", "1//2", "1/2/3", "01", "00", "1/02", "-01", "--1", "-",
		"1.5", "1e3", "0x1", "1_0", "x", "x0", "é", "\xff", "1\xff", "1\t", "\n1", "−1", "1⁄2", "١", top160(), "-" + top160(), "1/" + top160(), top160() + "0", "1/" + top160() + "0", "-" + top160() + "1/2", strings.Repeat("9", impl.MaxText), strings.Repeat("9", impl.MaxText+1),
	}
	for _, text := range texts {
		r, readCode := impl.ReadRat(text)
		if due, ok := dueRat(text); ok != (readCode == impl.OK) || !sameRat(due, r) {
			t.Errorf("dueRat(%s) = %s, %v", briefText(text), briefRat(due), ok)
		}
		for _, lines := range [][]string{
			with(freeLines(), "start "+text+" 0"), with(freeLines(), "start 0 "+text), with(freeLines(), "start 0 0 0 "+text), with(freeLines(), "start 0 0 0 0 "+text),
			with(boxLines(), "low "+text+" -1"), with(boxLines(), "low 0 "+text), with(boxLines(), "high "+text+" 5"), with(boxLines(), "high 5 "+text), with(freeLines(), "eps "+text),
		} {
			if _, code := checkRead(t, lines); (code == impl.ErrForm) != (readCode != impl.OK) {
				t.Errorf("ReadProblem(%s): code %d; ReadRat(%s) has %d", briefLines(lines), code, briefText(text), readCode)
			}
		}
	}
}

// Lines of fragments that are right more often than not.
func TestReadProblemOfNoise(t *testing.T) {
	noise := rand.New(rand.NewSource(102))
	pick := func(list ...string) string { return list[noise.Intn(len(list))] }
	numbers := func() string {
		return pick("0 0", "0 0", "1/2 0", "5 5", "-1 -1", "0", "1 1 1", "6 6", "x 0", "2/4 0", "")
	}
	seen := map[int]int{}
	for range 30000 {
		lines := boxLines()
		if noise.Intn(2) == 0 {
			lines = freeLines()
		}
		noise.Shuffle(len(lines), func(i, j int) { lines[i], lines[j] = lines[j], lines[i] })
		for range noise.Intn(4) {
			at := noise.Intn(len(lines))
			line := pick("minimize "+pick("x0", "x2", "x0 +", "x0^9", "5", "-x1", "("), "start "+numbers(), "low "+numbers(), "high "+numbers(),
				"solver "+pick("newton", "descent", "project", "none", "newton x", ""), "eps "+pick("0", "1", "-1", "x", "1 2", ""), "limits "+pick("0 0", "6 30", "7 0", "0 31", "-1 0", "5", "05 1", ""), pick("", " ", "what", "what 5"))
			word, _, _ := strings.Cut(line, " ")
			same := slices.IndexFunc(lines, func(other string) bool { return strings.HasPrefix(other, word) })
			switch {
			case noise.Intn(5) == 0:
				lines = slices.Insert(lines, at, line)
			case noise.Intn(5) == 0:
				lines = slices.Delete(lines, at, at+1)
			case same >= 0:
				lines[same] = line
			}
		}
		_, code := checkRead(t, lines)
		seen[code]++
	}
	for _, code := range []int{impl.OK, impl.ErrBad, impl.ErrForm, impl.ErrMany, impl.ErrSolver} {
		if seen[code] < 500 {
			t.Errorf("codes that were due: %v", seen)
		}
	}
}

// problemCalls are the calls on a problem, each with all that it answers.
func problemCalls() map[string]func(p impl.Problem) answer {
	return map[string]func(p impl.Problem) answer{
		"ProblemText": func(p impl.Problem) answer {
			lines, code := impl.ProblemText(p)
			return answer{lines: lines, code: code}
		},
		"HasBox": func(p impl.Problem) answer {
			box, code := impl.HasBox(p)
			if box {
				return answer{sign: 1, code: code}
			}
			return answer{code: code}
		},
	}
}

// checkProblemRight wants of a problem that it is right or not, and ErrBad alone of each call if it is not; it is alike to itself only if it is.
func checkProblemRight(t *testing.T, p impl.Problem, want bool) {
	t.Helper()
	if got := impl.ProblemOK(p); got != want || dueProblemRight(p) != want {
		t.Errorf("ProblemOK(%s) = %v; due is %v, want %v", briefProblem(p), got, dueProblemRight(p), want)
	}
	for name, call := range problemCalls() {
		got := call(p)
		if want && got.code != impl.OK || !want && !got.zeroBut(impl.ErrBad) {
			t.Errorf("%s(%s) = %s; right is %v", name, briefProblem(p), got, want)
		}
	}
	if got := impl.SameProblem(p, p); got != want {
		t.Errorf("SameProblem of %s and itself = %v", briefProblem(p), got)
	}
}

func rightProblem(t *testing.T, lines []string) impl.Problem {
	t.Helper()
	p, code := checkRead(t, lines)
	if code != impl.OK {
		t.Fatalf("ReadProblem(%s): code %d", briefLines(lines), code)
	}
	return p
}

func TestProblemOKOfEachField(t *testing.T) {
	checkProblemRight(t, impl.Problem{}, false)
	for _, lines := range [][]string{boxLines(), freeLines()} {
		right := rightProblem(t, lines)
		box := len(lines) == 7
		bent := func(want bool, change func(p *impl.Problem)) {
			t.Helper()
			p := right
			change(&p)
			checkProblemRight(t, p, want)
		}
		for n := -3; n <= 40; n++ {
			bent(n >= 1 && n <= 4, func(p *impl.Problem) { p.Solver = n })
			bent(n >= 0 && n <= 6, func(p *impl.Problem) { p.Iter = n })
			bent(n >= 0 && n <= 30, func(p *impl.Problem) { p.Back = n })
		}
		for _, n := range odd() {
			bent(n >= 1 && n <= 4, func(p *impl.Problem) { p.Solver = n })
			bent(n >= 0 && n <= 6, func(p *impl.Problem) { p.Iter = n })
			bent(n >= 0 && n <= 30, func(p *impl.Problem) { p.Back = n })
		}
		for _, r := range badRats() {
			bent(false, func(p *impl.Problem) { p.Eps = r })
			bent(false, func(p *impl.Problem) { p.Start = []impl.Rat{ratOfInts(1, 2), r} })
			bent(false, func(p *impl.Problem) { p.Low = []impl.Rat{r, ratOfInts(-1, 1)} })
			bent(false, func(p *impl.Problem) { p.High = []impl.Rat{ratOfInts(5, 1), r} })
		}
		for _, r := range sampleRats() {
			bent(!r.Neg, func(p *impl.Problem) { p.Eps = r })
		}
		for _, e := range slices.Concat(oddExprs(), sampleExprs()) {
			ok, _ := dueRight(e.Nodes)
			wide := slices.ContainsFunc(e.Nodes, func(n impl.Node) bool { return n.Op == impl.OpVar && n.N > 1 })
			bent(ok && !wide, func(p *impl.Problem) { p.F = e })
		}
		for _, x := range oddVecs() {
			bent(len(x) == 0, func(p *impl.Problem) { p.Low, p.High = x, x })
			bent(!box && len(x) == 0, func(p *impl.Problem) { p.Low = x })
			bent(!box && len(x) == 0, func(p *impl.Problem) { p.High = x })
			bent(false, func(p *impl.Problem) { p.Low, p.High = x, vecOfInts(5, 5) })
			bent(false, func(p *impl.Problem) { p.Low, p.High = vecOfInts(0, -1), x })
			ok := len(x) >= 2 && len(x) <= 4 && !slices.ContainsFunc(x, func(r impl.Rat) bool { return !impl.RatOK(r) })
			bent(ok, func(p *impl.Problem) { p.Start, p.Low, p.High = x, nil, nil })
			bent(ok, func(p *impl.Problem) { p.Start, p.Low, p.High = x, x, x })
			bent(false, func(p *impl.Problem) { p.Start, p.Low, p.High = x, append(slices.Clone(x), ratOfInts(0, 1)), nil })
		}
	}
}

func TestProblemOKOfTheBoxAlone(t *testing.T) {
	right := rightProblem(t, with(freeLines(), "minimize 1"))
	vecs := [][]impl.Rat{nil, {}}
	for a := int64(-1); a <= 1; a++ {
		vecs = append(vecs, vecOfInts(a))
		for b := int64(-1); b <= 1; b++ {
			vecs = append(vecs, vecOfInts(a, b))
		}
	}
	vecs = append(vecs, vecOfInts(0, 0, 0), vecOfInts(0, 0, 0, 0), vecOfInts(0, 0, 0, 0, 0), []impl.Rat{{}}, []impl.Rat{{}, {}})
	count := 0
	for _, v := range choices(vecs, 3) {
		p := right
		p.Start, p.Low, p.High = v[0], v[1], v[2]
		want := dueProblemRight(p)
		checkProblemRight(t, p, want)
		if box, code := impl.HasBox(p); want && (box != (len(v[1]) > 0) || code != impl.OK) {
			t.Errorf("HasBox(%s) = %v, %d", briefProblem(p), box, code)
		}
		if want && len(v[1]) > 0 {
			count++
		}
	}
	// Of each axis ten choices of three numbers rise: in one and in two axes, and the longer noughts.
	if count != 10+100+2 {
		t.Errorf("%d right boxes", count)
	}
}

// One field is another: they are not alike; or they are alike in all, in other memory.
func TestSameProblem(t *testing.T) {
	lines := [][]string{
		boxLines(), freeLines(), with(boxLines(), "minimize (x0 - 3)^2 + 2 * (x1 + 1)^3"), with(boxLines(), "minimize 2 * (x1 + 1)^2 + (x0 - 3)^2"), with(boxLines(), "start 1/2 1"), with(boxLines(), "start 0 0"), with(boxLines(), "low 0 0"),
		with(boxLines(), "low -1 -1"), with(boxLines(), "high 5 6"), with(boxLines(), "high 4 5"), with(boxLines(), "low 1/2 0"), with(boxLines(), "solver newton"), with(boxLines(), "solver descent"), with(boxLines(), "solver conjugate"),
		with(boxLines(), "eps 1/10"), with(boxLines(), "eps 0"), with(boxLines(), "limits 4 20"), with(boxLines(), "limits 5 19"), with(boxLines(), "limits 0 20"), with(boxLines(), "limits 5 0"), with(boxLines(), "limits 0 0"),
		with(freeLines(), "start 1/2 0 0"), with(freeLines(), "start 1/2 0 0 0"), with(freeLines(), "solver newton"), with(freeLines(), "minimize x0 - x1 - 1"), with(freeLines(), "minimize x0 - (x1 - 1)"), with(freeLines(), "minimize -x0^2"), with(freeLines(), "minimize (-x0)^2"),
	}
	for i, first := range lines {
		for j, second := range lines {
			p, q := rightProblem(t, first), rightProblem(t, second)
			if got := impl.SameProblem(p, q); got != (i == j) {
				t.Errorf("SameProblem of %s and %s = %v", briefLines(first), briefLines(second), got)
			}
		}
	}
	noise := rand.New(rand.NewSource(103))
	for range 200 {
		p, _ := noisyProblem(noise, 1+noise.Intn(6))
		q, _ := noisyProblem(noise, 1+noise.Intn(6))
		if got, want := impl.SameProblem(p, q), sameFields(p, q); got != want || !impl.SameProblem(p, p) || !impl.SameProblem(q, q) {
			t.Errorf("SameProblem of %s and %s = %v; want %v", briefProblem(p), briefProblem(q), got, want)
		}
	}
	// What is not right is alike to nothing.
	right := rightProblem(t, boxLines())
	for _, p := range wrongProblems(t) {
		for _, q := range append(wrongProblems(t), right) {
			if impl.SameProblem(p, q) || impl.SameProblem(q, p) {
				t.Errorf("SameProblem of %s and %s = true", briefProblem(p), briefProblem(q))
			}
		}
	}
}

func wrongProblems(t *testing.T) []impl.Problem {
	list := []impl.Problem{{}}
	for _, change := range []func(p *impl.Problem){
		func(p *impl.Problem) { p.F = impl.Expr{} },
		func(p *impl.Problem) { p.F.Nodes = slices.Repeat(p.F.Nodes, impl.MaxList) },
		func(p *impl.Problem) { p.F = leafVar(2).expr() },
		func(p *impl.Problem) { p.Start = nil },
		func(p *impl.Problem) { p.Start = ratsAlike(ratOfInts(1, 1), impl.MaxList+1) },
		func(p *impl.Problem) { p.Low = nil },
		func(p *impl.Problem) { p.High = nil },
		func(p *impl.Problem) { p.Low = ratsAlike(ratOfInts(0, 1), impl.MaxList+1) },
		func(p *impl.Problem) { p.High = ratsAlike(ratOfInts(9, 1), impl.MaxList+1) },
		func(p *impl.Problem) { p.Low, p.High = p.High, p.Low },
		func(p *impl.Problem) { p.Start = []impl.Rat{{}, {}} },
		func(p *impl.Problem) { p.Eps = impl.Rat{} },
		func(p *impl.Problem) { p.Eps = ratOfInts(-1, 100) },
		func(p *impl.Problem) { p.Eps = impl.Rat{Num: repeated(1, impl.MaxList+1), Den: []int{1}} },
		func(p *impl.Problem) { p.Solver = 0 },
		func(p *impl.Problem) { p.Solver = 5 },
		func(p *impl.Problem) { p.Iter = 7 },
		func(p *impl.Problem) { p.Back = -1 },
	} {
		p := rightProblem(t, boxLines())
		change(&p)
		checkProblemRight(t, p, false)
		list = append(list, p)
	}
	return list
}

func spareProblem(p impl.Problem) impl.Problem {
	p.F.Nodes, p.Start, p.Low, p.High, p.Eps = spareNodes(p.F.Nodes), spareVec(p.Start), spareVec(p.Low), spareVec(p.High), spareRat(p.Eps)
	return p
}

func untouchedProblem(p, was impl.Problem) bool {
	return untouchedNodes(p.F.Nodes, was.F.Nodes) && untouchedVec(p.Start, was.Start) && untouchedVec(p.Low, was.Low) && untouchedVec(p.High, was.High) && untouchedRat(p.Eps, was.Eps) &&
		p.Solver == was.Solver && p.Iter == was.Iter && p.Back == was.Back
}

func sampleProblems(t *testing.T) []impl.Problem {
	list := wrongProblems(t)
	noise := rand.New(rand.NewSource(104))
	for i := range 40 {
		p, _ := noisyProblem(noise, 1+i)
		list = append(list, p)
	}
	return append(list, rightProblem(t, boxLines()), rightProblem(t, freeLines()))
}

func TestProblemsAndAnswersStayApart(t *testing.T) {
	for _, p := range sampleProblems(t) {
		for name, call := range problemCalls() {
			given := spareProblem(p)
			got := call(given)
			said := got.String()
			spoilLines(got.lines)
			if !untouchedProblem(given, p) {
				t.Errorf("%s changed %s", name, briefProblem(p))
			}
			if again := call(p).String(); again != said {
				t.Errorf("%s of %s = %s, then %s", name, briefProblem(p), said, again)
			}
		}
		first, second := spareProblem(p), spareProblem(p)
		right := impl.ProblemOK(first)
		if impl.SameProblem(first, second) != right || impl.SameProblem(first, first) != right || !untouchedProblem(first, p) || !untouchedProblem(second, p) {
			t.Errorf("ProblemOK and SameProblem of %s: %v, or it changed", briefProblem(p), right)
		}
	}
}

// memoryOf is every list of numbers of a problem.
func memoryOf(p impl.Problem) [][]int {
	return answer{vec: slices.Concat(p.Start, p.Low, p.High), rats: []impl.Rat{p.Eps}}.memory()
}

func TestReadProblemAnswersNewMemory(t *testing.T) {
	lists := [][]string{boxLines(), freeLines(), with(boxLines(), "start 5 5", "low 5 5", "high 5 5", "eps 5"), with(freeLines(), "start 1 1 1 1", "eps 1"), with(boxLines(), "eps -1"), nil, {"what 5"}}
	noise := rand.New(rand.NewSource(105))
	for i := range 40 {
		_, lines := noisyProblem(noise, 1+i)
		lists = append(lists, lines)
	}
	for _, lines := range lists {
		room := append(slices.Clone(lines), "behind", "the end")
		given := room[:len(lines)]
		p, code := impl.ReadProblem(given)
		other, _ := impl.ReadProblem(given)
		said := briefProblem(p)
		if spoilAll(memoryOf(p)) {
			t.Errorf("ReadProblem(%s): the lists of one answer share memory", briefLines(lines))
		}
		spoilNodes(p.F.Nodes)
		for _, x := range [][]impl.Rat{p.Start, p.Low, p.High} {
			kept := fmt.Sprint(p.Start, p.Low, p.High)
			was := slices.Clone(x)
			spoilVec(x)
			copy(x, was)
			if fmt.Sprint(p.Start, p.Low, p.High) != kept {
				t.Errorf("ReadProblem(%s): vectors of one answer share memory", briefLines(lines))
			}
			spoilVec(x)
		}
		if briefProblem(other) != said {
			t.Errorf("two answers of ReadProblem(%s) share memory", briefLines(lines))
		}
		again, againCode := impl.ReadProblem(lines)
		if briefProblem(again) != said || againCode != code || !slices.Equal(given, lines) || !slices.Equal(room[len(lines):], []string{"behind", "the end"}) {
			t.Errorf("ReadProblem(%s) = %s, %d, then %s, %d, or its argument changed", briefLines(lines), said, code, briefProblem(again), againCode)
		}
	}
}

func TestProblemAnswersDoNotHangOnEarlierCalls(t *testing.T) {
	list := sampleProblems(t)
	noise := rand.New(rand.NewSource(106))
	var lines [][]string
	for i := range list {
		_, more := noisyProblem(noise, 1+i)
		if i%3 == 0 {
			more = more[:noise.Intn(len(more))]
		}
		lines = append(lines, more)
	}
	checkAnyOrder(t, len(list), func(i int, told map[string]string) {
		for name, call := range problemCalls() {
			told[fmt.Sprint(name, i)] = call(list[i]).String()
		}
		p, code := impl.ReadProblem(lines[i])
		word, wordCode := impl.SolverWord(i - 2)
		told[fmt.Sprint("ReadProblem", i)] = fmt.Sprint(briefProblem(p), code, word, wordCode)
		told[fmt.Sprint("right and same", i)] = fmt.Sprint(impl.ProblemOK(list[i]), impl.SameProblem(list[i], list[(i+1)%len(list)]), impl.SameProblem(list[i], list[i]))
	})
}

func TestProblemsWithEmptyAndNilAreAlike(t *testing.T) {
	bare := impl.Problem{F: leafVar(0).expr(), Start: []impl.Rat{{Den: []int{1}}}, Solver: 1, Eps: impl.Rat{Den: []int{1}}}
	empty := impl.Problem{F: leafVar(0).expr(), Start: []impl.Rat{{Num: []int{}, Den: []int{1}}}, Low: []impl.Rat{}, High: []impl.Rat{}, Solver: 1, Eps: impl.Rat{Num: []int{}, Den: []int{1}}}
	half := bare
	half.Low = empty.High
	want := []string{"minimize x0", "start 0", "solver descent", "eps 0", "limits 0 0"}
	for _, p := range []impl.Problem{bare, empty, half} {
		checkProblem(t, p, want)
		for _, q := range []impl.Problem{bare, empty, half} {
			if !impl.SameProblem(p, q) {
				t.Errorf("SameProblem of %s and %s = false", briefProblem(p), briefProblem(q))
			}
		}
	}
	for _, p := range []impl.Problem{bare, empty} {
		p.Low, p.High = p.Start, p.Start
		checkProblem(t, p, slices.Insert(slices.Clone(want), 2, "low 0", "high 0"))
		p.Start = []impl.Rat{}
		checkProblemRight(t, p, false)
	}
	checkProblemRight(t, impl.Problem{F: impl.Expr{Nodes: []impl.Node{}}, Start: []impl.Rat{}, Low: []impl.Rat{}, High: []impl.Rat{}}, false)
}
