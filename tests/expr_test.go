package tests

import (
	"fmt"
	"math/rand"
	"slices"
	"strings"
	"testing"

	"loop.example/g00615/impl"
)

// twig is an expression as a tree, from which nodes, text, depth and axes are told without the program.
type twig struct {
	op, n int
	parts []*twig
}

func leafConst(n int) *twig           { return &twig{op: 1, n: n} }
func leafVar(n int) *twig             { return &twig{op: 2, n: n} }
func twigOf(op int, a, b *twig) *twig { return &twig{op: op, parts: []*twig{a, b}} }
func negOf(a *twig) *twig             { return &twig{op: 7, parts: []*twig{a}} }
func powOf(a *twig, n int) *twig      { return &twig{op: 8, n: n, parts: []*twig{a}} }

func (w *twig) count() int {
	sum := 1
	for _, part := range w.parts {
		sum += part.count()
	}
	return sum
}

func (w *twig) depth() int {
	most := 0
	for _, part := range w.parts {
		most = max(most, part.depth())
	}
	return most + 1
}

func (w *twig) axes() int {
	most := 0
	if w.op == 2 {
		most = w.n + 1
	}
	for _, part := range w.parts {
		most = max(most, part.axes())
	}
	return most
}

func (w *twig) nodes(list []impl.Node) []impl.Node {
	var places []int
	for _, part := range w.parts {
		list = part.nodes(list)
		places = append(places, len(list)-1)
	}
	places = append(places, 0, 0)
	return append(list, impl.Node{Op: w.op, A: places[0], B: places[1], N: w.n})
}

func (w *twig) expr() impl.Expr {
	return impl.Expr{Nodes: w.nodes(nil)}
}

func (w *twig) text() string {
	inner := func(part *twig, bracketed bool) string {
		if bracketed {
			return "(" + part.text() + ")"
		}
		return part.text()
	}
	switch w.op {
	case 1:
		return fmt.Sprint(w.n)
	case 2:
		return fmt.Sprint("x", w.n)
	case 7:
		return "-" + inner(w.parts[0], len(w.parts[0].parts) == 2)
	case 8:
		return inner(w.parts[0], len(w.parts[0].parts) != 0) + fmt.Sprint("^", w.n)
	}
	return inner(w.parts[0], len(w.parts[0].parts) == 2) + " " + "+-*/"[w.op-3:w.op-2] + " " + inner(w.parts[1], len(w.parts[1].parts) == 2)
}

// dueParse reads tokens without the program: from the first to the last with stacks, not by functions in one another.
type dueParse struct {
	open  []string
	done  []int
	nodes []impl.Node
	deep  int
}

func (d *dueParse) last() string {
	if len(d.open) == 0 {
		return ""
	}
	return d.open[len(d.open)-1]
}

func (d *dueParse) drop() {
	d.open = d.open[:len(d.open)-1]
}

func (d *dueParse) leaf(op, n int) {
	d.nodes = append(d.nodes, impl.Node{Op: op, N: n})
	d.done = append(d.done, len(d.nodes)-1)
}

func (d *dueParse) one(op, n int) {
	d.nodes = append(d.nodes, impl.Node{Op: op, A: d.done[len(d.done)-1], N: n})
	d.done[len(d.done)-1] = len(d.nodes) - 1
}

// close makes nodes of the signs of two that wait on top, if they are among these.
func (d *dueParse) close(signs string) {
	for d.last() != "" && strings.Contains(signs, d.last()) {
		rest := d.done[:len(d.done)-2]
		d.nodes = append(d.nodes, impl.Node{Op: 3 + strings.Index("+-*/", d.last()), A: d.done[len(rest)], B: d.done[len(rest)+1]})
		d.done = append(rest, len(d.nodes)-1)
		d.drop()
	}
}

func (d *dueParse) closeNegs() {
	for d.last() == "neg" {
		d.one(7, 0)
		d.drop()
		d.deep--
	}
}

func dueExpr(t string) ([]impl.Node, int) {
	list, code := dueTokens(t)
	if code != impl.OK {
		return nil, code
	}
	var d dueParse
	const wantPart, mayRaise, wantRaise, mayGoOn = 0, 1, 2, 3
	state := wantPart
	for _, k := range list {
		switch {
		case state == wantPart && (k.T == "-" || k.T == "("):
			if d.deep++; d.deep == 12 {
				return nil, impl.ErrDeep
			}
			d.open = append(d.open, map[string]string{"-": "neg", "(": "("}[k.T])
		case state == wantPart && k.Kind != impl.TkPunct:
			d.leaf(k.Kind, k.N)
			state = mayRaise
		case state == mayRaise && k.T == "^":
			state = wantRaise
		case state == wantRaise && k.Kind == impl.TkNumber && k.N <= 8:
			d.one(8, k.N)
			state = mayGoOn
		case state == wantPart || state == wantRaise || k.T == "" || k.T == "^" || k.T == "(":
			return nil, impl.ErrForm
		default:
			d.closeNegs()
			d.close("*/")
			if k.T == "+" || k.T == "-" || k.T == ")" {
				d.close("+-")
			}
			if k.T != ")" {
				d.open = append(d.open, k.T)
				state = wantPart
				continue
			}
			if d.last() != "(" {
				return nil, impl.ErrForm
			}
			d.drop()
			d.deep--
			state = mayRaise
		}
	}
	if state == wantPart || state == wantRaise {
		return nil, impl.ErrForm
	}
	d.closeNegs()
	d.close("*/")
	d.close("+-")
	if len(d.open) != 0 {
		return nil, impl.ErrForm
	}
	if len(d.nodes) > 60 {
		return nil, impl.ErrMany
	}
	if right, deep := dueRight(d.nodes); !right && deep > 12 {
		return nil, impl.ErrDeep
	}
	return d.nodes, impl.OK
}

// dueRight takes the nodes as they are worked off with a stack, and tells their depth, too.
func dueRight(nodes []impl.Node) (bool, int) {
	var places, depths []int
	right := len(nodes) <= 60
	for i, n := range nodes {
		arity := map[int]int{3: 2, 4: 2, 5: 2, 6: 2, 7: 1, 8: 1}[n.Op]
		top := map[int]int{1: 999999999, 2: 3, 8: 8}[n.Op]
		if n.Op < 1 || n.Op > 8 || n.N < 0 || n.N > top || len(places) < arity {
			return false, 0
		}
		rest := len(places) - arity
		want := append(slices.Clone(places[rest:]), 0, 0)
		if n.A != want[0] || n.B != want[1] {
			return false, 0
		}
		deep := 0
		for _, child := range depths[rest:] {
			deep = max(deep, child)
		}
		places, depths = append(places[:rest], i), append(depths[:rest], deep+1)
	}
	if len(places) != 1 {
		return false, 0
	}
	return right && depths[0] <= 12, depths[0]
}

func briefNodes(nodes []impl.Node) string {
	if len(nodes) > 12 {
		return fmt.Sprintf("%v..(%d nodes)", nodes[:12], len(nodes))
	}
	return fmt.Sprint(nodes)
}

func checkParse(t *testing.T, text string, want []impl.Node, wantCode int) {
	t.Helper()
	e, code := impl.ParseExpr(text)
	if !slices.Equal(e.Nodes, want) || code != wantCode {
		t.Errorf("ParseExpr(%s) = %s, %d; want %s, %d", briefText(text), briefNodes(e.Nodes), code, briefNodes(want), wantCode)
	}
	if impl.ExprOK(e) != (code == impl.OK) {
		t.Errorf("ParseExpr(%s) = %s, %d: ExprOK is %v", briefText(text), briefNodes(e.Nodes), code, impl.ExprOK(e))
	}
}

// checkTwig wants all that chapter 6 tells of one expression that is right, and the expression back from its text.
func checkTwig(t *testing.T, w *twig) {
	t.Helper()
	e, want := w.expr(), w.text()
	if !impl.ExprOK(e) {
		t.Errorf("ExprOK of %s = false", want)
	}
	if text, code := impl.PrintExpr(e); text != want || code != impl.OK {
		t.Errorf("PrintExpr of %s = %q, %d; want %q", briefNodes(e.Nodes), text, code, want)
	}
	if deep, code := impl.DepthOf(e); deep != w.depth() || code != impl.OK {
		t.Errorf("DepthOf %s = %d, %d; want %d", want, deep, code, w.depth())
	}
	if axes, code := impl.DimOf(e); axes != w.axes() || code != impl.OK {
		t.Errorf("DimOf %s = %d, %d; want %d", want, axes, code, w.axes())
	}
	checkParse(t, want, e.Nodes, impl.OK)
	if back, _ := impl.ParseExpr(want); !impl.SameExpr(back, e) || !impl.SameExpr(e, back) {
		t.Errorf("%s is another expression when it is read back", want)
	}
}

// grownTwig has at most so many nodes, and at most so many in one another.
func grownTwig(noise *rand.Rand, room, deep int) *twig {
	kind := noise.Intn(10)
	switch {
	case room >= 3 && deep > 1 && kind < 6:
		left := 1 + noise.Intn(room-2)
		return twigOf(3+noise.Intn(4), grownTwig(noise, left, deep-1), grownTwig(noise, room-1-left, deep-1))
	case room >= 2 && deep > 1 && kind < 8:
		return negOf(grownTwig(noise, room-1, deep-1))
	case room >= 2 && deep > 1:
		return powOf(grownTwig(noise, room-1, deep-1), noise.Intn(9))
	case kind < 5:
		return leafVar(noise.Intn(4))
	}
	return leafConst([]int{0, 1, 7, 10, 999999999, noise.Intn(1000000000)}[noise.Intn(6)])
}

// evenTwig is as flat as that many nodes can be.
func evenTwig(count int) *twig {
	switch count {
	case 1:
		return leafVar(1)
	case 2:
		return negOf(leafConst(5))
	}
	left := (count - 1) / 2
	return twigOf(3+count%4, evenTwig(left), evenTwig(count-1-left))
}

// chainTwig puts one node over another, from the inmost: by digits 0 to 3 a -, a ^, the left or the right part of two.
func chainTwig(length, digits, base int) *twig {
	w := leafVar(digits % 4)
	for range length {
		switch digits % base {
		case 0:
			w = negOf(w)
		case 1:
			w = powOf(w, digits%9)
		case 2:
			w = twigOf(3+digits%4, w, leafConst(2))
		case 3:
			w = twigOf(3+digits/3%4, leafVar(0), w)
		}
		digits /= base
	}
	return w
}

func TestExprConstants(t *testing.T) {
	ops := []int{impl.OpConst, impl.OpVar, impl.OpAdd, impl.OpSub, impl.OpMul, impl.OpDiv, impl.OpNeg, impl.OpPow}
	if !slices.Equal(ops, []int{1, 2, 3, 4, 5, 6, 7, 8}) || impl.MaxNodes != 60 || impl.MaxDeep != 12 {
		t.Error("a constant of chapter 6 is another one")
	}
}

func TestExpressionsReadBackFromTheirTexts(t *testing.T) {
	for _, n := range allNumbers() {
		checkTwig(t, leafConst(n))
	}
	for n := range 4 {
		checkTwig(t, leafVar(n))
	}
	for n := range 9 {
		checkTwig(t, powOf(leafVar(2), n))
	}
	noise := rand.New(rand.NewSource(31))
	deepest, largest := 0, 0
	for i := range 6000 {
		w := grownTwig(noise, 1+i%impl.MaxNodes, 1+i%impl.MaxDeep)
		deepest, largest = max(deepest, w.depth()), max(largest, w.count())
		checkTwig(t, w)
	}
	if deepest != impl.MaxDeep || largest < impl.MaxNodes-1 {
		t.Errorf("at most %d nodes, %d in one another were tried", largest, deepest)
	}
}

// Every way to put one kind of node over another, up to seven of them, and - and ^ alone up to the deepest.
func TestChainsReadBackFromTheirTexts(t *testing.T) {
	for length, ways := 0, 1; length < 7; length, ways = length+1, ways*4 {
		for digits := range ways {
			checkTwig(t, chainTwig(length, digits, 4))
		}
	}
	for digits := range 1 << 11 {
		checkTwig(t, chainTwig(11, digits, 2))
	}
	noise := rand.New(rand.NewSource(32))
	for range 4000 {
		checkTwig(t, chainTwig(11, noise.Intn(1<<22), 4))
	}
}

func TestPrintExprHasBracketsWhereTheyAreDue(t *testing.T) {
	x, one := leafVar(0), leafConst(1)
	sum := twigOf(3, x, one)
	for want, w := range map[string]*twig{
		"x0 + 1":              sum,
		"(x0 + 1) + 1":        twigOf(3, sum, one),
		"1 + (x0 + 1)":        twigOf(3, one, sum),
		"(x0 + 1) - (x0 + 1)": twigOf(4, sum, sum),
		"(x0 * 1) + 1":        twigOf(3, twigOf(5, x, one), one),
		"(x0 / 1) / 1":        twigOf(6, twigOf(6, x, one), one),
		"(x0 + 1) * x0":       twigOf(5, sum, x),
		"-(x0 + 1)":           negOf(sum),
		"-(x0 / 1)":           negOf(twigOf(6, x, one)),
		"--x0":                negOf(negOf(x)),
		"---1":                negOf(negOf(negOf(one))),
		"-x0^2":               negOf(powOf(x, 2)),
		"(-x0)^2":             powOf(negOf(x), 2),
		"(--x0)^2":            powOf(negOf(negOf(x)), 2),
		"-(-x0)^2":            negOf(powOf(negOf(x), 2)),
		"(x0^2)^3":            powOf(powOf(x, 2), 3),
		"((x0^0)^1)^8":        powOf(powOf(powOf(x, 0), 1), 8),
		"(-x0^2)^3":           powOf(negOf(powOf(x, 2)), 3),
		"(x0 + 1)^2":          powOf(sum, 2),
		"1^8":                 powOf(one, 8),
		"-x0 + -1":            twigOf(3, negOf(x), negOf(one)),
		"-x0 - -1":            twigOf(4, negOf(x), negOf(one)),
		"x0^2 * 1^3":          twigOf(5, powOf(x, 2), powOf(one, 3)),
		"-(x0 + 1)^2":         negOf(powOf(sum, 2)),
		"(-(x0 + 1))^2":       powOf(negOf(sum), 2),
		"-x0^2 / (-x0)^2":     twigOf(6, negOf(powOf(x, 2)), powOf(negOf(x), 2)),
	} {
		if got, code := impl.PrintExpr(w.expr()); got != want || code != impl.OK || w.text() != want {
			t.Errorf("PrintExpr of %s = %q, %d; want %q", briefNodes(w.expr().Nodes), got, code, want)
		}
		checkTwig(t, w)
	}
}

func TestParseExprOfTexts(t *testing.T) {
	x, y, one, two, three := leafVar(0), leafVar(1), leafConst(1), leafConst(2), leafConst(3)
	for text, w := range map[string]*twig{
		"1":                           one,
		"  x1  ":                      y,
		"(1)":                         one,
		"((x1))":                      y,
		"(((((((((((x1)))))))))))":    y,
		"1-2-3":                       twigOf(4, twigOf(4, one, two), three),
		"1-(2-3)":                     twigOf(4, one, twigOf(4, two, three)),
		"1-2+3":                       twigOf(3, twigOf(4, one, two), three),
		"1/2/3":                       twigOf(6, twigOf(6, one, two), three),
		"1/2*3":                       twigOf(5, twigOf(6, one, two), three),
		"1*2/3":                       twigOf(6, twigOf(5, one, two), three),
		"1/(2*3)":                     twigOf(6, one, twigOf(5, two, three)),
		"1+2*3":                       twigOf(3, one, twigOf(5, two, three)),
		"1*2+3":                       twigOf(3, twigOf(5, one, two), three),
		"1-2/3-x0*x1":                 twigOf(4, twigOf(4, one, twigOf(6, two, three)), twigOf(5, x, y)),
		"(1+2)*3":                     twigOf(5, twigOf(3, one, two), three),
		"-1":                          negOf(one),
		"--1":                         negOf(negOf(one)),
		"1--2":                        twigOf(4, one, negOf(two)),
		"1---2":                       twigOf(4, one, negOf(negOf(two))),
		"-1-2":                        twigOf(4, negOf(one), two),
		"-1*2":                        twigOf(5, negOf(one), two),
		"1*-2":                        twigOf(5, one, negOf(two)),
		"1/--2":                       twigOf(6, one, negOf(negOf(two))),
		"-x0^2":                       negOf(powOf(x, 2)),
		"--x0^2":                      negOf(negOf(powOf(x, 2))),
		"(-x0)^2":                     powOf(negOf(x), 2),
		"x0^2*x1^3":                   twigOf(5, powOf(x, 2), powOf(y, 3)),
		"x0*x1^2":                     twigOf(5, x, powOf(y, 2)),
		"2^0":                         powOf(two, 0),
		"2 ^ 8":                       powOf(two, 8),
		"((x0)^2)^3":                  powOf(powOf(x, 2), 3),
		"(x0^2)^3":                    powOf(powOf(x, 2), 3),
		"(x0)^2":                      powOf(x, 2),
		"-(x0+1)^2":                   negOf(powOf(twigOf(3, x, one), 2)),
		"(x0 - 3)^2 + 2 * (x1 + 1)^2": twigOf(3, powOf(twigOf(4, x, three), 2), twigOf(5, two, powOf(twigOf(3, y, one), 2))),
	} {
		checkParse(t, text, w.nodes(nil), impl.OK)
		due, code := dueExpr(text)
		if !slices.Equal(due, w.nodes(nil)) || code != impl.OK {
			t.Errorf("%q: due is %v, %d", text, due, code)
		}
	}
}

func TestParseExprOfNoExpression(t *testing.T) {
	for _, text := range []string{
		"", " ", "+", "-", "*", "/", "^", "(", ")", "()", ")(", "( )", "(()", "(1))", "((1)", "1)", "(1", "(1 2)", "1 2", "x0 x1", "x01", "2x0", "x0(1)", "(1)(2)", "(1)2",
		"+1", "*1", "/1", "^1", "1+", "1-", "1*", "1/", "1^", "1++2", "1+*2", "1**2", "1//2", "1*/2", "1-+2", "-+1", "(+1)", "-*1", "- ", "--", "1--",
		"x0^9", "x0^10", "x0^999999999", "x0^-1", "x0^x1", "x0^(2)", "x0^", "x0^+1", "x0^2^3", "x0^1^1", "(x0^2^3)", "-x0^2^2", "x0^2 3", "x0^2x1", "x0^2(1)", "^2", "()^2", "x0^*2",
		"x4", "x", "01", "y", "1.5", "x0 = 1", "x0^08", "1000000000", "\t1", "1\n",
	} {
		checkParse(t, text, nil, impl.ErrForm)
	}
}

// Each text of up to six tokens of a few, of each kind that has a way of its own.
func TestParseExprOfShortTexts(t *testing.T) {
	tokens := []string{"7", "x1", "9", "+", "-", "*", "^", "(", ")"}
	texts := []string{""}
	for range 6 {
		var longer []string
		for _, text := range texts {
			for _, token := range tokens {
				longer = append(longer, text+" "+token)
			}
		}
		for _, text := range longer {
			want, code := dueExpr(text)
			checkParse(t, text, want, code)
		}
		texts = longer
	}
}

// noisyText is an expression, perhaps with a token of it dropped, doubled or another one.
func noisyText(noise *rand.Rand, signs []string) string {
	var list []string
	open := 0
	for range 1 + noise.Intn(40) {
		for noise.Intn(5) < 2 {
			sign := []string{"-", "("}[noise.Intn(2)]
			list = append(list, sign)
			open += strings.Count(sign, "(")
		}
		list = append(list, []string{"3", "x2", "0"}[noise.Intn(3)])
		for noise.Intn(2) == 0 {
			if noise.Intn(4) == 0 {
				list = append(list, "^", fmt.Sprint(noise.Intn(9)))
			}
			if open == 0 {
				break
			}
			list = append(list, ")")
			open--
		}
		list = append(list, signs[noise.Intn(len(signs))])
	}
	list = append(list, "1")
	for range open {
		list = append(list, ")")
	}
	if noise.Intn(3) == 0 {
		list[noise.Intn(len(list))] = []string{"", "- -", "(", ")", "^", "8", "9"}[noise.Intn(7)]
	}
	return strings.Join(list, " ")
}

func TestParseExprOfNoise(t *testing.T) {
	noise := rand.New(rand.NewSource(33))
	seen := map[int]int{}
	for range 30000 {
		text := noisyText(noise, []string{"+", "-", "*", "/"})
		want, code := dueExpr(text)
		seen[code]++
		checkParse(t, text, want, code)
	}
	for _, code := range []int{impl.OK, impl.ErrForm, impl.ErrMany, impl.ErrDeep} {
		if seen[code] < 500 {
			t.Errorf("codes that were due: %v", seen)
		}
	}
}

// What is read is right, and its text is read as the same expression, however it was written.
func TestTextsThatAreReadAndPrinted(t *testing.T) {
	noise := rand.New(rand.NewSource(34))
	for range 8000 {
		text := noisyText(noise, []string{"+", "*"})
		e, code := impl.ParseExpr(text)
		if code != impl.OK {
			continue
		}
		printed, code := impl.PrintExpr(e)
		if code != impl.OK {
			t.Errorf("PrintExpr of %s: code %d", text, code)
		}
		checkParse(t, printed, e.Nodes, impl.OK)
	}
}
