package tests

import (
	"fmt"
	"math"
	"math/rand"
	"slices"
	"strings"
	"testing"

	"loop.example/g00615/impl"
)

func parsed(text string) answer {
	e, code := impl.ParseExpr(text)
	return answer{nodes: e.Nodes, code: code}
}

func exprCalls() map[string]func(e impl.Expr) answer {
	return map[string]func(e impl.Expr) answer{
		"PrintExpr": func(e impl.Expr) answer {
			text, code := impl.PrintExpr(e)
			return answer{text: text, code: code}
		},
		"DepthOf": func(e impl.Expr) answer {
			deep, code := impl.DepthOf(e)
			return answer{sign: deep, code: code}
		},
		"DimOf": func(e impl.Expr) answer {
			axes, code := impl.DimOf(e)
			return answer{sign: axes, code: code}
		},
	}
}

// checkRight wants of nodes that they are right or not, and ErrBad alone of each call if they are not.
func checkRight(t *testing.T, nodes []impl.Node, want bool) {
	t.Helper()
	e := impl.Expr{Nodes: nodes}
	if got := impl.ExprOK(e); got != want {
		t.Errorf("ExprOK(%s) = %v", briefNodes(nodes), got)
	}
	if got := impl.SameExpr(e, impl.Expr{Nodes: slices.Clone(nodes)}); got != want {
		t.Errorf("SameExpr of %s and its copy = %v", briefNodes(nodes), got)
	}
	for name, call := range exprCalls() {
		got := call(e)
		if want && got.code != impl.OK || !want && !got.zeroBut(impl.ErrBad) {
			t.Errorf("%s(%s) = %s; right is %v", name, briefNodes(nodes), got, want)
		}
	}
}

func odd() []int {
	return []int{math.MinInt, -1 << 32, -1000000000, -2, -1, 0, 1, 2, 3, 4, 5, 7, 8, 9, 10, 59, 60, 61, 999999998, 999999999, 1000000000, 1 << 32, 1<<32 + 1, math.MaxInt}
}

func TestExprOKOfOneNode(t *testing.T) {
	for _, n := range odd() {
		for op := -1; op <= 10; op++ {
			checkRight(t, []impl.Node{{Op: op, N: n}}, op == 1 && n >= 0 && n <= 999999999 || op == 2 && n >= 0 && n <= 3)
			checkRight(t, []impl.Node{{Op: op, A: n}}, (op == 1 || op == 2) && n == 0)
			checkRight(t, []impl.Node{{Op: op, B: n}}, (op == 1 || op == 2) && n == 0)
		}
		checkRight(t, []impl.Node{{Op: n}}, n == 1 || n == 2)
	}
	checkRight(t, nil, false)
	checkRight(t, []impl.Node{}, false)
}

func TestExprOKOfOneChild(t *testing.T) {
	for _, n := range odd() {
		leaf := impl.Node{Op: impl.OpVar, N: 1}
		checkRight(t, []impl.Node{leaf, {Op: impl.OpNeg, A: n}}, n == 0)
		checkRight(t, []impl.Node{leaf, {Op: impl.OpNeg, B: n}}, n == 0)
		checkRight(t, []impl.Node{leaf, {Op: impl.OpNeg, N: n}}, n == 0)
		checkRight(t, []impl.Node{leaf, {Op: impl.OpPow, A: n, N: 2}}, n == 0)
		checkRight(t, []impl.Node{leaf, {Op: impl.OpPow, B: n, N: 2}}, n == 0)
		checkRight(t, []impl.Node{leaf, {Op: impl.OpPow, N: n}}, n >= 0 && n <= 8)
		checkRight(t, []impl.Node{leaf, {Op: impl.OpNeg}, {Op: impl.OpNeg, A: n}}, n == 1)
		checkRight(t, []impl.Node{leaf, {Op: impl.OpPow, N: 3}, {Op: impl.OpNeg, A: n}}, n == 1)
		checkRight(t, []impl.Node{leaf, leaf, {Op: impl.OpNeg, A: n}}, false)
	}
}

func TestExprOKOfTwoChildren(t *testing.T) {
	leaf := impl.Node{Op: impl.OpConst, N: 4}
	for _, op := range []int{impl.OpAdd, impl.OpSub, impl.OpMul, impl.OpDiv} {
		for _, a := range odd() {
			for _, b := range odd() {
				checkRight(t, []impl.Node{leaf, leaf, {Op: op, A: a, B: b}}, a == 0 && b == 1)
				checkRight(t, []impl.Node{leaf, leaf, {Op: impl.OpNeg, A: 1}, {Op: op, A: a, B: b}}, a == 0 && b == 2)
				checkRight(t, []impl.Node{leaf, {Op: impl.OpNeg}, leaf, {Op: op, A: a, B: b}}, a == 1 && b == 2)
				checkRight(t, []impl.Node{leaf, {Op: op, A: a, B: b}}, false)
				checkRight(t, []impl.Node{leaf, leaf, leaf, {Op: op, A: a, B: b}}, false)
				checkRight(t, []impl.Node{leaf, leaf, {Op: op, A: 0, B: 1}, leaf, {Op: op, A: a, B: b}}, a == 2 && b == 3)
				checkRight(t, []impl.Node{leaf, leaf, leaf, {Op: op, A: 1, B: 2}, {Op: op, A: a, B: b}}, a == 0 && b == 3)
			}
			checkRight(t, []impl.Node{leaf, leaf, {Op: op, A: 0, B: 1, N: a}}, a == 0)
		}
	}
}

// One number of a right expression is another one: it is right only by the rule of the stack.
func TestExprOKOfBentExpressions(t *testing.T) {
	noise := rand.New(rand.NewSource(35))
	seen := map[bool]int{}
	for i := range 1500 {
		nodes := grownTwig(noise, 1+i%impl.MaxNodes, 1+i%impl.MaxDeep).nodes(nil)
		for range 12 {
			bent := slices.Clone(nodes)
			n := &bent[noise.Intn(len(bent))]
			field := []*int{&n.Op, &n.A, &n.B, &n.N}[noise.Intn(4)]
			*field = []int{*field - 1, *field + 1, 1 + noise.Intn(8), noise.Intn(len(bent)), odd()[noise.Intn(len(odd()))]}[noise.Intn(5)]
			right, _ := dueRight(bent)
			seen[right]++
			checkRight(t, bent, right)
		}
		at := noise.Intn(len(nodes))
		for _, bent := range [][]impl.Node{slices.Delete(slices.Clone(nodes), at, at+1), slices.Insert(slices.Clone(nodes), at, nodes[at]), append(slices.Clone(nodes), impl.Node{Op: impl.OpVar})} {
			right, _ := dueRight(bent)
			checkRight(t, bent, right)
		}
	}
	if seen[true] < 1000 || seen[false] < 1000 {
		t.Errorf("right and not right: %v", seen)
	}
}

func TestMostNodesAndOneMore(t *testing.T) {
	for _, count := range []int{1, 2, 3, 59, 60} {
		checkTwig(t, evenTwig(count))
	}
	for _, count := range []int{61, 62, 99, 150} {
		w := evenTwig(count)
		if w.depth() > impl.MaxDeep || w.count() != count {
			t.Fatalf("%d nodes, %d in one another", w.count(), w.depth())
		}
		checkRight(t, w.nodes(nil), false)
		checkParse(t, w.text(), nil, impl.ErrMany)
	}
	leaf := impl.Node{Op: impl.OpConst}
	for _, count := range []int{61, impl.MaxList, impl.MaxList + 1, 3 * impl.MaxList} {
		checkRight(t, slices.Repeat([]impl.Node{leaf}, count), false)
		long := []impl.Node{leaf}
		for i := range count {
			long = append(long, impl.Node{Op: impl.OpNeg, A: i})
		}
		checkRight(t, long, false)
	}
}

func TestDeepestAndOneMore(t *testing.T) {
	noise := rand.New(rand.NewSource(36))
	for base := 1; base <= 4; base++ {
		for range 300 {
			digits := noise.Intn(1 << 24)
			checkTwig(t, chainTwig(11, digits, base))
			checkRight(t, chainTwig(12, digits, base).nodes(nil), false)
			checkRight(t, negOf(chainTwig(11, digits, base)).nodes(nil), false)
			checkRight(t, twigOf(5, leafVar(0), chainTwig(11, digits, base)).nodes(nil), false)
			checkRight(t, twigOf(5, chainTwig(11, digits, base), leafVar(0)).nodes(nil), false)
		}
	}
	for _, part := range []string{"+1", "-x0", "*2", "/x3"} {
		checkParse(t, "1"+strings.Repeat(part, 12), nil, impl.ErrDeep)
		if got := parsed("1" + strings.Repeat(part, 11)); got.code != impl.OK || len(got.nodes) != 23 {
			t.Errorf("ParseExpr of 11 times %q: %d nodes, code %d", part, len(got.nodes), got.code)
		}
	}
}

func TestSameExpr(t *testing.T) {
	noise := rand.New(rand.NewSource(37))
	list := []*twig{leafConst(0), leafConst(1), leafVar(0), leafVar(1), negOf(leafVar(0)), powOf(leafVar(0), 0), powOf(leafVar(0), 1), evenTwig(60)}
	for i := range 30 {
		list = append(list, grownTwig(noise, 1+i, impl.MaxDeep))
	}
	for op := 3; op <= 6; op++ {
		list = append(list, twigOf(op, leafVar(0), leafVar(1)), twigOf(op, leafVar(1), leafVar(0)))
	}
	bad := impl.Expr{Nodes: []impl.Node{{Op: impl.OpNeg}}}
	for _, v := range list {
		for _, w := range list {
			if got := impl.SameExpr(v.expr(), w.expr()); got != (v.text() == w.text()) {
				t.Errorf("SameExpr of %s and %s = %v", v.text(), w.text(), got)
			}
		}
		for _, other := range []impl.Expr{bad, {}, {Nodes: v.nodes(nil)[:v.count()-1]}} {
			if right, _ := dueRight(other.Nodes); right && other.Nodes != nil {
				continue
			}
			if impl.SameExpr(v.expr(), other) || impl.SameExpr(other, v.expr()) {
				t.Errorf("SameExpr of %s and what is not right = true", v.text())
			}
		}
	}
}

func TestParseExprCodesInOrder(t *testing.T) {
	open, minus, sum := strings.Repeat("(", 12), strings.Repeat("-", 12), "1"+strings.Repeat("+1", 12)
	fewer, many := strings.Repeat("(", 11), "1"+strings.Repeat("+1", 30)
	for name, c := range map[string]struct {
		text string
		code int
	}{
		"long ahead of form":                      {"!" + strings.Repeat(" ", impl.MaxText), impl.ErrLong},
		"long ahead of deep":                      {strings.Repeat("(", impl.MaxText+1), impl.ErrLong},
		"the longest":                             {strings.Repeat(" ", impl.MaxText-1) + "1", impl.OK},
		"the longest of blanks":                   {strings.Repeat(" ", impl.MaxText), impl.ErrForm},
		"no token ahead of deep":                  {open + "!", impl.ErrForm},
		"no token ahead of many nodes":            {many + "+01", impl.ErrForm},
		"too many tokens ahead of deep":           {strings.Repeat("(", 401), impl.ErrMany},
		"too many tokens ahead of form":           {")" + strings.Repeat("+", 400), impl.ErrMany},
		"too many tokens, then no token":          {strings.Repeat("(", 401) + "!", impl.ErrMany},
		"most tokens":                             {strings.Repeat("(", 400), impl.ErrDeep},
		"most tokens, deep":                       {strings.Repeat("-", 400), impl.ErrDeep},
		"most tokens, many nodes":                 {"-1" + strings.Repeat("+1", 199), impl.ErrMany},
		"deep of brackets":                        {open + "x0" + strings.Repeat(")", 12), impl.ErrDeep},
		"deep of -":                               {minus + "x0", impl.ErrDeep},
		"deep of both":                            {strings.Repeat("-(", 6) + "x0" + strings.Repeat(")", 6), impl.ErrDeep},
		"deep of both, a bracket last":            {strings.Repeat("-(", 5) + "-(x0" + strings.Repeat(")", 6), impl.ErrDeep},
		"deep of both, a - last":                  {strings.Repeat("(-", 6) + "x0" + strings.Repeat(")", 6), impl.ErrDeep},
		"not deep of both":                        {strings.Repeat("-(", 5) + "-x0" + strings.Repeat(")", 5), impl.OK},
		"not deep of both, a bracket last":        {strings.Repeat("(-", 5) + "(x0" + strings.Repeat(")", 6), impl.OK},
		"deep ahead of what is wrong there":       {open, impl.ErrDeep},
		"deep of - ahead of what is wrong there":  {minus, impl.ErrDeep},
		"deep ahead of a sign there":              {open + "*", impl.ErrDeep},
		"deep ahead of brackets that do not fit":  {open + "x0" + strings.Repeat(")", 13), impl.ErrDeep},
		"deep ahead of those that are not there":  {open + "x0", impl.ErrDeep},
		"form one bracket ahead of deep":          {fewer, impl.ErrForm},
		"form of a sign one ahead of deep":        {fewer + "+(", impl.ErrForm},
		"form of brackets one ahead of deep":      {fewer + ")" + open, impl.ErrForm},
		"form ahead of deep":                      {"1 + * " + open, impl.ErrForm},
		"form of an exponent ahead of deep":       {"x0^9 + " + open, impl.ErrForm},
		"form of two exponents ahead of deep":     {"x0^2^2 + " + open, impl.ErrForm},
		"left over ahead of deep":                 {"x0 x1 + " + open, impl.ErrForm},
		"left over bracket ahead of deep":         {"x0) + " + open, impl.ErrForm},
		"deep behind what is right":               {"x0^2 + (x1) * " + open, impl.ErrDeep},
		"deep of - behind what is right":          {"x0 - " + minus, impl.ErrDeep},
		"a - of two does not count":               {"x0 - " + minus[:11] + "1", impl.ErrDeep},
		"a - of two, one fewer":                   {"x0 - " + minus[:10] + "1", impl.OK},
		"brackets that are closed do not count":   {"(((((((x0))))))) + (((((((x1)))))))", impl.OK},
		"a - that is over does not count":         {"-----x0 * -------(((x1)))", impl.OK},
		"a - reaches over brackets":               {"-----(((((((x1)))))))", impl.ErrDeep},
		"a - reaches over the exponent alone":     {"-x0^2 + (((((((((((1)))))))))))", impl.OK},
		"deep ahead of many nodes":                {many + "+" + open, impl.ErrDeep},
		"form ahead of many nodes":                {many + "+", impl.ErrForm},
		"left over ahead of many nodes":           {many + ")", impl.ErrForm},
		"left over ahead of many nodes and deep":  {many + " 1" + open, impl.ErrForm},
		"left over ahead of nodes too deep":       {sum + ")", impl.ErrForm},
		"left over number ahead of nodes deep":    {sum + " 1", impl.ErrForm},
		"nodes too deep":                          {sum, impl.ErrDeep},
		"nodes too deep in brackets":              {"(" + sum + ")", impl.ErrDeep},
		"many nodes ahead of nodes too deep":      {many, impl.ErrMany},
		"brackets deep behind nodes too deep":     {sum + "+" + open, impl.ErrDeep},
		"form behind nodes too deep":              {sum + "+*", impl.ErrForm},
		"form within brackets behind nodes deep":  {sum + "+(1", impl.ErrForm},
		"nodes deep by exponents":                 {"(((((((((((x0^1)^1)^1)^1)^1)^1)^1)^1)^1)^1)^1)^1", impl.ErrDeep},
		"exponents as deep as may be":             {"((((((((((x0^1)^1)^1)^1)^1)^1)^1)^1)^1)^1)^1", impl.OK},
		"- as deep as may be, and one exponent":   {minus[:11] + "x0^2", impl.ErrDeep},
		"- nearly as deep, and one exponent":      {minus[:10] + "x0^2", impl.OK},
		"brackets as deep as may be, two parts":   {fewer + "x0+1" + strings.Repeat(")", 11), impl.OK},
		"brackets as deep as may be, a - in them": {fewer + "-1" + strings.Repeat(")", 11), impl.ErrDeep},
	} {
		got := parsed(c.text)
		if c.code != impl.OK && !got.zeroBut(c.code) || got.code != c.code {
			t.Errorf("%s: ParseExpr(%s) = %s, code %d; want code %d", name, briefText(c.text), briefNodes(got.nodes), got.code, c.code)
		}
		if _, due := dueExpr(c.text); due != c.code {
			t.Errorf("%s: due is %d, not %d", name, due, c.code)
		}
	}
}

// spareNodes has room behind its end, which no call may write into.
func spareNodes(list []impl.Node) []impl.Node {
	room := append(slices.Clone(list), impl.Node{Op: mark}, impl.Node{N: mark})
	return room[:len(list)]
}

func untouchedNodes(list, was []impl.Node) bool {
	behind := list[:len(list)+2][len(list):]
	return slices.Equal(list, was) && behind[0] == impl.Node{Op: mark} && behind[1] == impl.Node{N: mark}
}

func spoilNodes(list []impl.Node) {
	room := list[:cap(list)]
	for i := range room {
		room[i] = impl.Node{Op: -5, A: -5, B: -5, N: -5}
	}
}

func sampleExprs() []impl.Expr {
	list := []impl.Expr{{}, {Nodes: []impl.Node{}}, {Nodes: []impl.Node{{Op: 9}}}, {Nodes: []impl.Node{{Op: 1}, {Op: 1}}}, evenTwig(61).expr(), chainTwig(12, 0, 1).expr()}
	noise := rand.New(rand.NewSource(38))
	for i := range 40 {
		list = append(list, grownTwig(noise, 1+i, impl.MaxDeep).expr())
	}
	return append(list, evenTwig(60).expr(), chainTwig(11, 1234567, 4).expr())
}

func TestExprCallsChangeNothing(t *testing.T) {
	for _, e := range sampleExprs() {
		given, other := impl.Expr{Nodes: spareNodes(e.Nodes)}, impl.Expr{Nodes: spareNodes(e.Nodes)}
		right := impl.ExprOK(given)
		if same := impl.SameExpr(given, other); same != right || impl.SameExpr(given, given) != right || right != impl.ExprOK(e) {
			t.Errorf("ExprOK of %s = %v, SameExpr of it and itself %v", briefNodes(e.Nodes), right, same)
		}
		for name, call := range exprCalls() {
			if first, again := call(given).String(), call(e).String(); first != again {
				t.Errorf("%s of %s = %s, then %s", name, briefNodes(e.Nodes), first, again)
			}
		}
		if !untouchedNodes(given.Nodes, e.Nodes) || !untouchedNodes(other.Nodes, e.Nodes) {
			t.Errorf("%s changed", briefNodes(e.Nodes))
		}
	}
}

func sampleExprTexts() []string {
	return []string{
		"", "1", "x3", "x0-x1-x2", "(x0 - 3)^2 + 2 * (x1 + 1)^2", "x0^9", "(", "1 2", "------------x0", "((((((((((((x0", "1" + strings.Repeat("+1", 12), "1" + strings.Repeat("+1", 40), "(x0*x1)^3 + -5",
		evenTwig(60).text(), strings.Repeat("-", 401), strings.Repeat(" ", impl.MaxText+1), "!",
	}
}

func TestParseExprAnswersNewMemory(t *testing.T) {
	for _, text := range sampleExprTexts() {
		first, second := parsed(text), parsed(text)
		told := first.String()
		spoilNodes(first.nodes)
		if second.String() != told {
			t.Errorf("two answers of ParseExpr(%s) share memory", briefText(text))
		}
		if again := parsed(text).String(); again != told {
			t.Errorf("ParseExpr(%s) = %s after its answer was written over, ahead of that %s", briefText(text), again, told)
		}
	}
}

func TestExprAnswersDoNotHangOnEarlierCalls(t *testing.T) {
	texts, list := sampleExprTexts(), sampleExprs()
	checkAnyOrder(t, len(list), func(i int, told map[string]string) {
		told[fmt.Sprint("ParseExpr", i)] = parsed(texts[i%len(texts)]).String()
		for name, call := range exprCalls() {
			told[fmt.Sprint(name, i)] = call(list[i]).String()
		}
		told[fmt.Sprint("right and same", i)] = fmt.Sprint(impl.ExprOK(list[i]), impl.SameExpr(list[i], list[(i+1)%len(list)]))
	})
}
