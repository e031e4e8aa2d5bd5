package tests

import (
	"fmt"
	"math/big"
	"math/rand"
	"slices"
	"strings"
	"testing"

	"loop.example/g00615/impl"
)

// form is an expression whose slopes are expressions again, so that what is due is worked out without jets.
type form struct {
	op, n int
	value *big.Rat
	parts []*form
}

func formOfInt(n int) *form               { return &form{op: impl.OpConst, value: big.NewRat(int64(n), 1)} }
func formOf(op int, parts ...*form) *form { return &form{op: op, parts: parts} }

// formsOf has a form of each node.
func formsOf(nodes []impl.Node) []*form {
	var list []*form
	for _, n := range nodes {
		f := &form{op: n.Op, n: n.N}
		switch n.Op {
		case impl.OpConst:
			f = formOfInt(n.N)
		case impl.OpNeg, impl.OpPow:
			f.parts = []*form{list[n.A]}
		case impl.OpAdd, impl.OpSub, impl.OpMul, impl.OpDiv:
			f.parts = []*form{list[n.A], list[n.B]}
		}
		list = append(list, f)
	}
	return list
}

// slopesAlong makes one form of each other one, which the form's parts share.
type slopesAlong struct {
	way   []impl.Rat
	known map[*form]*form
}

func (s slopesAlong) of(f *form) *form {
	if s.known[f] == nil {
		s.known[f] = s.made(f)
	}
	return s.known[f]
}

func (s slopesAlong) made(f *form) *form {
	switch f.op {
	case impl.OpConst:
		return formOfInt(0)
	case impl.OpVar:
		return &form{op: impl.OpConst, value: bigRatOf(s.way[f.n])}
	case impl.OpNeg:
		return formOf(impl.OpNeg, s.of(f.parts[0]))
	case impl.OpPow:
		if f.n == 0 {
			return formOfInt(0)
		}
		lower := &form{op: impl.OpPow, n: f.n - 1, parts: f.parts}
		return formOf(impl.OpMul, formOf(impl.OpMul, formOfInt(f.n), lower), s.of(f.parts[0]))
	}
	a, b := f.parts[0], f.parts[1]
	if f.op == impl.OpAdd || f.op == impl.OpSub {
		return formOf(f.op, s.of(a), s.of(b))
	}
	first, second := formOf(impl.OpMul, s.of(a), b), formOf(impl.OpMul, a, s.of(b))
	if f.op == impl.OpMul {
		return formOf(impl.OpAdd, first, second)
	}
	return formOf(impl.OpDiv, formOf(impl.OpSub, first, second), formOf(impl.OpMul, b, b))
}

// valuesAt has nil of what is over 0.
type valuesAt struct {
	x     []impl.Rat
	known map[*form]*big.Rat
}

func (m valuesAt) of(f *form) *big.Rat {
	q, ok := m.known[f]
	if !ok {
		q = m.made(f)
		m.known[f] = q
	}
	return q
}

func (m valuesAt) made(f *form) *big.Rat {
	var parts []*big.Rat
	for _, part := range f.parts {
		if parts = append(parts, m.of(part)); m.of(part) == nil {
			return nil
		}
	}
	switch f.op {
	case impl.OpConst:
		return f.value
	case impl.OpVar:
		return bigRatOf(m.x[f.n])
	case impl.OpAdd:
		return new(big.Rat).Add(parts[0], parts[1])
	case impl.OpSub:
		return new(big.Rat).Sub(parts[0], parts[1])
	case impl.OpMul:
		return new(big.Rat).Mul(parts[0], parts[1])
	case impl.OpNeg:
		return new(big.Rat).Neg(parts[0])
	case impl.OpPow:
		q := big.NewRat(1, 1)
		for range f.n {
			q.Mul(q, parts[0])
		}
		return q
	}
	if parts[1].Sign() == 0 {
		return nil
	}
	return new(big.Rat).Quo(parts[0], parts[1])
}

// duePass goes through the nodes with none, one or two ways: it tells the value, the slopes and that of both, or at which node there is a code.
func duePass(nodes []impl.Node, x []impl.Rat, ways [][]impl.Rat) (parts []*big.Rat, node, code int) {
	values := valuesAt{x, map[*form]*big.Rat{}}
	var along []slopesAlong
	for _, v := range ways {
		along = append(along, slopesAlong{v, map[*form]*form{}})
	}
	for i, f := range formsOf(nodes) {
		asked := []*form{f}
		for _, s := range along {
			for _, g := range slices.Clone(asked) {
				asked = append(asked, s.of(g))
			}
		}
		if values.of(f) == nil {
			return nil, i, impl.ErrDomain
		}
		parts = nil
		for _, g := range asked {
			if parts = append(parts, values.of(g)); tooLong(ratOfBig(values.of(g))) {
				return nil, i, impl.ErrFull
			}
		}
	}
	return parts, len(nodes), impl.OK
}

// axisVec goes along one axis.
func axisVec(i, length int) []impl.Rat {
	x := ratsAlike(ratOfInts(0, 1), length)
	x[i] = ratOfInts(1, 1)
	return x
}

// meaningCall is a call of chapter 7, and the ways of each pass that it asks for.
type meaningCall struct {
	takesWay bool
	call     func(e impl.Expr, x, v []impl.Rat) answer
	passes   func(x, v []impl.Rat) [][][]impl.Rat
}

func meaningCalls() map[string]meaningCall {
	axes := func(x []impl.Rat, ways ...[]impl.Rat) [][][]impl.Rat {
		var passes [][][]impl.Rat
		for i := range x {
			passes = append(passes, append([][]impl.Rat{axisVec(i, len(x))}, ways...))
		}
		return passes
	}
	return map[string]meaningCall{
		"ValueOf": {false,
			func(e impl.Expr, x, _ []impl.Rat) answer { return ofOneRat(impl.ValueOf(e, x)) },
			func(_, _ []impl.Rat) [][][]impl.Rat { return [][][]impl.Rat{nil} }},
		"SlopeOf": {true,
			func(e impl.Expr, x, v []impl.Rat) answer {
				value, slope, code := impl.SlopeOf(e, x, v)
				return answer{rats: []impl.Rat{value, slope}, code: code}
			},
			func(_, v []impl.Rat) [][][]impl.Rat { return [][][]impl.Rat{{v}} }},
		"GradOf": {false,
			func(e impl.Expr, x, _ []impl.Rat) answer { return ofVec(impl.GradOf(e, x)) },
			func(x, _ []impl.Rat) [][][]impl.Rat { return axes(x) }},
		"CurveOf": {true,
			func(e impl.Expr, x, v []impl.Rat) answer { return ofVec(impl.CurveOf(e, x, v)) },
			func(x, v []impl.Rat) [][][]impl.Rat { return axes(x, v) }},
		"HessOf": {false,
			func(e impl.Expr, x, _ []impl.Rat) answer { return ofVec(impl.HessOf(e, x)) },
			func(x, _ []impl.Rat) [][][]impl.Rat {
				var rows [][][]impl.Rat
				for i := range x {
					rows = append(rows, axes(x, axisVec(i, len(x)))...)
				}
				return rows
			}},
	}
}

// dueMeaning has two codes where the axes are at odds: that of the first axis with one, and that of the first node with one.
func dueMeaning(name string, c meaningCall, nodes []impl.Node, x, v []impl.Rat) (want []*big.Rat, codes []int) {
	least, codes := len(nodes), []int{impl.OK, impl.OK}
	for _, ways := range c.passes(x, v) {
		parts, node, code := duePass(nodes, x, ways)
		if codes[0] == impl.OK {
			codes[0] = code
		}
		if node < least {
			least, codes[1] = node, code
		}
		if code == impl.OK && name != "SlopeOf" {
			parts = parts[len(parts)-1:]
		}
		want = append(want, parts...)
	}
	return want, codes
}

// checkMeaning wants of right arguments what is due of each call, and tells the codes.
func checkMeaning(t *testing.T, e impl.Expr, x, v []impl.Rat) map[string]int {
	t.Helper()
	text, _ := impl.PrintExpr(e)
	seen := map[string]int{}
	for name, c := range meaningCalls() {
		want, codes := dueMeaning(name, c, e.Nodes, x, v)
		got := c.call(e, x, v)
		seen[name] = got.code
		if !slices.Contains(codes, got.code) || got.code != impl.OK && !got.zeroBut(got.code) {
			t.Errorf("%s of %s at %s along %s = %s; want code %d", name, text, briefVec(x), briefVec(v), got, codes[0])
			continue
		}
		if got.code != impl.OK {
			continue
		}
		var list []impl.Rat
		for _, q := range want {
			list = append(list, ratOfBig(q))
		}
		if all := slices.Concat(got.rats, got.vec); !sameVec(all, list) {
			t.Errorf("%s of %s at %s along %s = %s; want %v", name, text, briefVec(x), briefVec(v), got, list)
		}
	}
	return seen
}

func exprOf(t *testing.T, text string) impl.Expr {
	t.Helper()
	e, code := impl.ParseExpr(text)
	if code != impl.OK {
		t.Fatalf("ParseExpr(%q): code %d", text, code)
	}
	return e
}

// vecOf reads texts with a blank between; e and a number stand for that many noughts, also below.
func vecOf(t *testing.T, texts string) []impl.Rat {
	t.Helper()
	var x []impl.Rat
	for _, text := range strings.Fields(texts) {
		q, ok := new(big.Rat).SetString(text)
		if !ok {
			t.Fatalf("no rational: %q", text)
		}
		x = append(x, ratOfBig(q))
	}
	return x
}

// told is a list of rationals as texts with a blank between.
func told(list []impl.Rat) string {
	var texts []string
	for _, r := range list {
		texts = append(texts, bigRatOf(r).RatString())
	}
	return strings.Join(texts, " ")
}

func TestMeaningOfOrdinaryOnes(t *testing.T) {
	for _, c := range []struct{ text, x, v, value, slope, grad, curve, hess string }{
		{"5", "1/2", "7", "5", "0", "0", "0", "0"},
		{"0 - 3", "1 2 3 4", "5 6 7 8", "-3", "0", "0 0 0 0", "0 0 0 0", "0 0 0 0 0 0 0 0 0 0 0 0 0 0 0 0"},
		{"x0", "1/2", "-7", "1/2", "-7", "1", "0", "0"},
		{"x1", "4 5 6", "1 2 3", "5", "2", "0 1 0", "0 0 0", "0 0 0 0 0 0 0 0 0"},
		{"-x0", "3", "2", "-3", "-2", "-1", "0", "0"},
		{"x0 + x1", "1 2", "3 5", "3", "8", "1 1", "0 0", "0 0 0 0"},
		{"x0 - x1", "1 2", "3 5", "-1", "-2", "1 -1", "0 0", "0 0 0 0"},
		{"x0 * x1", "2 3", "5 7", "6", "29", "3 2", "7 5", "0 1 1 0"},
		{"x0 * x0", "3", "5", "9", "30", "6", "10", "2"},
		{"x0 / x1", "3 2", "5 7", "3/2", "-11/4", "1/2 -3/4", "-7/4 4", "0 -1/4 -1/4 3/4"},
		{"1 / x0", "-2", "3", "-1/2", "-3/4", "-1/4", "-3/4", "-1/4"},
		{"x0 / x0", "7", "2", "1", "0", "0", "0", "0"},
		{"1 / (1 / x0)", "7", "2", "7", "2", "1", "0", "0"},
		{"x0^1", "0", "2", "0", "2", "1", "0", "0"},
		{"x0^2", "0", "2", "0", "0", "0", "4", "2"},
		{"x0^3", "0", "2", "0", "0", "0", "0", "0"},
		{"x0^8", "-1", "1/2", "1", "-4", "-8", "28", "56"},
		{"(x0 * x1)^2", "1 -2", "1 1", "4", "4", "8 -4", "0 -6", "8 -8 -8 2"},
		{"x0 * x1 * x2", "2 3 5", "1 0 0", "30", "15", "15 10 6", "0 5 3", "0 5 3 5 0 2 3 2 0"},
		{"(x0 - 3)^2 + 2 * (x1 + 1)^2", "0 0", "1 1", "11", "-2", "-6 4", "2 4", "2 0 0 4"},
	} {
		e, x, v := exprOf(t, c.text), vecOf(t, c.x), vecOf(t, c.v)
		value, code := impl.ValueOf(e, x)
		same, slope, slopeCode := impl.SlopeOf(e, x, v)
		grad, gradCode := impl.GradOf(e, x)
		curve, curveCode := impl.CurveOf(e, x, v)
		hess, hessCode := impl.HessOf(e, x)
		if max(code, slopeCode, gradCode, curveCode, hessCode) != impl.OK {
			t.Errorf("%s at %s: codes %d %d %d %d %d", c.text, c.x, code, slopeCode, gradCode, curveCode, hessCode)
			continue
		}
		for _, pair := range [][2]string{
			{told([]impl.Rat{value}), c.value}, {told([]impl.Rat{same}), c.value}, {told([]impl.Rat{slope}), c.slope}, {told(grad), c.grad}, {told(curve), c.curve}, {told(hess), c.hess},
		} {
			if pair[0] != pair[1] {
				t.Errorf("%s at %s along %s: %s; want %s", c.text, c.x, c.v, pair[0], pair[1])
			}
		}
		checkMeaning(t, e, x, v)
	}
}

// checkCodes wants codes of ValueOf, SlopeOf, GradOf, CurveOf and HessOf, as words.
func checkCodes(t *testing.T, text, x, v, words string) {
	t.Helper()
	seen := checkMeaning(t, exprOf(t, text), vecOf(t, x), vecOf(t, v))
	var list []string
	for _, name := range []string{"ValueOf", "SlopeOf", "GradOf", "CurveOf", "HessOf"} {
		list = append(list, impl.CodeWord(seen[name]))
	}
	if got := strings.Join(list, " "); got != words {
		t.Errorf("%s at %s along %s: %s; want %s", text, x, v, got, words)
	}
}

const (
	allOK     = "ok ok ok ok ok"
	allDomain = "domain domain domain domain domain"
	allFull   = "full full full full full"
)

func TestMeaningOfExponentsOf0(t *testing.T) {
	for _, text := range []string{"x0^0", "0^0", "(x0 - x0)^0", "(x0 * 0)^0", "(x0^0)^0", "x0^0 * x0^0", "1 / x0^0", "(x0 - 5)^0"} {
		for _, x := range []string{"0", "5", "-1/3", "1e100"} {
			checkCodes(t, text, x, "3", allOK)
			value, slope, _ := impl.SlopeOf(exprOf(t, text), vecOf(t, x), vecOf(t, "3"))
			if told([]impl.Rat{value, slope}) != "1 0" {
				t.Errorf("%s at %s: %v, %v; want 1 and 0", text, x, value, slope)
			}
		}
	}
	checkCodes(t, "x0^0 + x0^1 + x0^2 + x0^3", "0", "1", allOK)
	checkCodes(t, "x1^0", "0 0", "1 1", allOK)
	checkCodes(t, "(1 / x0)^0", "0", "1", allDomain)
	checkCodes(t, "1 / 0^1", "0", "1", allDomain)
	checkCodes(t, "1 / 0^0", "0", "1", allOK)
}

func TestMeaningOfWhatIsOver0(t *testing.T) {
	for _, text := range []string{
		"1 / 0", "0 / 0", "x0 / 0", "1 / x0", "x0 / x0", "0 / x0", "x0^2 / x0", "1 / (x0 * x1)", "1 / x0^3", "1 / -x0", "1 / (x1 - x1)", "1 / (x1 - 1)", "x1 / (0 * x1)", "1 / (0 / x1)",
		"1 + 1 / x0", "0 * (1 / x0)", "1 / x0 - 1 / x0", "x1 * (x0 / x0)", "-(1 / x0)", "(1 / x0)^2", "1 / (1 / x0)", "x1 + (x1 / x0) * 0 + x1", "(x0 - x0) / (x0 - x0)", "(1 / x0) / (1 / x0)",
	} {
		for _, v := range []string{"0 0", "1 0", "0 1", "-2 3"} {
			checkCodes(t, text, "0 1", v, allDomain)
		}
	}
	for _, text := range []string{"x0 / x1", "0 / x1", "x0^8 / x1", "1 / x0^0", "1 / (x0 - 1)", "(x0 / x1) / x1"} {
		checkCodes(t, text, "0 1", "1 1", allOK)
	}
}

func TestMeaningAtLengthsOfX(t *testing.T) {
	for dim := range impl.MaxDim {
		e := exprOf(t, fmt.Sprintf("x%d^2 + 1 / x0", dim))
		for length := 1; length <= impl.MaxDim; length++ {
			x, v := vecOfInts(2, 3, 5, 7)[:length], vecOfInts(1, -2, 1, 3)[:length]
			if length > dim {
				for name, code := range checkMeaning(t, e, x, v) {
					if code != impl.OK {
						t.Errorf("%s of %d variables at %d numbers: code %d", name, dim+1, length, code)
					}
				}
				grad, _ := impl.GradOf(e, x)
				curve, _ := impl.CurveOf(e, x, v)
				hess, _ := impl.HessOf(e, x)
				if len(grad) != length || len(curve) != length || len(hess) != length*length {
					t.Errorf("at %d numbers: %d, %d, %d are answered", length, len(grad), len(curve), len(hess))
				}
				continue
			}
			for name, c := range meaningCalls() {
				if got := c.call(e, x, v); !got.zeroBut(impl.ErrSize) {
					t.Errorf("%s of %d variables at %d numbers = %s; want ErrSize alone", name, dim+1, length, got)
				}
			}
		}
	}
}

// The greatest number has 160 nines.
func TestMeaningAtMaxLimbs(t *testing.T) {
	top, below := strings.Repeat("9", 4*impl.MaxLimbs), strings.Repeat("9", 4*impl.MaxLimbs-1)+"8"
	for _, c := range [][4]string{
		{"x0", top, top, allOK},
		{"x0 + 1", below, "1", allOK},
		{"x0 + 1", top, "1", allFull},
		{"(x0 + 1) - 1", top, "1", allFull},
		{"(x0 + 1) * 0", top, "1", allFull},
		{"(x0 + 1)^0", top, "1", allFull},
		{"0 - (x0 + 1)", top, "1", allFull},
		{"-x0 - 1", top, "1", allFull},
		{"-x0 - 1", below, "1", allOK},
		{"1 / (x0 + 1)", top, "0", allFull},
		{"x0 / 2", "1/" + top, "1", allFull},
		{"x0 / 2", "2/" + top, "1", allOK},
		{"1 / 2 * x0", "1/" + top, "1", allFull},
		{"x0 * x0", "1e79", "1", allOK},
		{"x0 * x0", "1e80", "1", allFull},
		{"x0^8", "1e19", "1", allOK},
		{"x0^8", "1e20", "1", allFull},
		{"x0^8", "-1e-19", "0", allOK},
		{"x0^8", "-1e-20", "0", allFull},
		{"((2^8)^8)^8", "0", "1", allOK},
		{"((3^8)^8)^8", "0", "1", allFull},
		{"((x0^8)^8)^8", "10", "0", allFull},
		{"((x0^8)^8)^8", "-1", "1", allOK},
		{"x0 + x1", top + " -" + top, "1 1", allOK},
		{"x0 - x1", top + " -" + top, "1 1", allFull},
	} {
		checkCodes(t, c[0], c[1], c[2], c[3])
	}
}

// A slope that is asked for is too long, while the value is not; what is not asked for may be of any length.
func TestSlopesOfMoreThanMaxLimbs(t *testing.T) {
	for _, c := range [][4]string{
		{"1 / x0", "1e-50", "1", allOK},
		{"1 / x0", "1e-60", "1", "ok ok ok full full"},
		{"1 / x0", "1e-60", "0", "ok ok ok ok full"},
		{"1 / x0", "1e-60", "1e50", "ok full ok full full"},
		{"1 / x0", "1e-60", "1e30", "ok ok ok full full"},
		{"1 / x0", "1e-60", "1e-30", "ok ok ok ok full"},
		{"1 / x0", "1e-100", "0", "ok ok full full full"},
		{"1 / x0", "1e-100", "1", "ok full full full full"},
		{"1 / x0", "1e-100", "1e-100", "ok ok full full full"},
		{"1 / x0 - 1 / x0", "1e-100", "1", "ok full full full full"},
		{"0 * (1 / x0)", "1e-100", "1", "ok full full full full"},
		{"(1 / x0)^0", "1e-100", "1", "ok full full full full"},
		{"1 / (1 / x0)", "1e-100", "1", "ok full full full full"},
		{"1 / (1 / x0)", "1e-100", "0", "ok ok full full full"},
		{"1 / x1", "5 1e-100", "1 0", "ok ok full full full"},
		{"1 / x1", "5 1e-100", "0 1", "ok full full full full"},
		{"1 / x1", "5 1e-60", "1 0", "ok ok ok ok full"},
		{"1 / x1", "5 1e-60", "0 1", "ok ok ok full full"},
		{"x0 * x1", "1e80 0", "0 1e79", allOK},
		{"x0 * x1", "1e80 0", "0 1e80", "ok full ok full ok"},
		{"x0 * x1", "0 1e80", "1e80 0", "ok full ok full ok"},
		{"x0^2", "0", "1e159", allOK},
		{"x0^2", "0", "5e159", "ok ok ok full ok"},
		{"x0^8", "1e19", "1e25", allOK},
		{"x0^8", "1e19", "1e27", "ok full ok full ok"},
		{"x0^2 * x1", "0 0", "1e100 1e100", allOK},
		{"x0 * x1 + x1", "0 1e10", "1e155 0", "ok full ok full ok"},
		{"-x0 + x1", "1 1", "6e159 6e159", allOK},
		{"x0 + x1", "1 1", "6e159 6e159", "ok full ok full ok"},
		{"x0 - x1", "1 1", "6e159 -6e159", "ok full ok full ok"},
		{"x0 - x0", "1 1", "6e159 0", allOK},
		{"5", "1", "6e159", allOK},
	} {
		checkCodes(t, c[0], c[1], c[2], c[3])
	}
}

// Within one node what is too long may cancel: only what is the node's own counts.
func TestSlopesThatCancelWithinANode(t *testing.T) {
	for _, c := range [][4]string{
		{"x0 * x1", "1e10 1e10", "1e159 -1e159", allOK},
		{"x0 * x1", "1e10 1e10", "1e159 1e159", "ok full ok full ok"},
		{"x0 / x1", "1e100 1e100", "1e100 1", "ok ok ok full full"},
		{"x0 / x1", "1e70 1e70", "1e70 1e70", allOK},
		{"x0 / x1", "1e50 1e50", "1e70 1e70", allOK},
		{"x0 / x0", "1e100", "1e100", allOK},
		{"x0 / x0", "1e-100", "1e159", allOK},
		{"x0^2 / x1", "1e-79 1e-79", "0 1", allOK},
	} {
		checkCodes(t, c[0], c[1], c[2], c[3])
	}
}

func TestDomainAndFullNodeByNode(t *testing.T) {
	for _, c := range [][4]string{
		{"x0 * x0 + 1 / x1", "1e100 0", "0 0", allFull},
		{"1 / x1 + x0 * x0", "1e100 0", "0 0", allDomain},
		{"(x0 * x0) / x1", "1e100 0", "0 0", allFull},
		{"x0 / x1 * x0 * x0", "1e100 0", "0 0", allDomain},
		{"x0 / (x0 * x0 * 0)", "1e100 0", "0 0", allFull},
		{"x0 * x0 / (x1 - x1)", "1e79 0", "0 0", allDomain},
		{"1 / x0 / x1", "1e-100 0", "1 0", "domain full full full full"},
		{"1 / x0 / x1", "1e-100 0", "0 1", "domain domain full full full"},
		{"1 / x1 / x0", "1e-100 0", "1 0", allDomain},
		{"1 / x0 + 1 / x1", "1e-60 0", "1 0", "domain domain domain full full"},
		{"1 / x0 + 1 / x1", "1e-60 0", "0 1", "domain domain domain domain full"},
		{"1 / x1 + 1 / x0", "1e-60 0", "1 0", allDomain},
		{"x0 * x1 + 1 / 0", "0 1e80", "1e80 0", "domain full domain full domain"},
		{"1 / 0 + x0 * x1", "0 1e80", "1e80 0", allDomain},
	} {
		checkCodes(t, c[0], c[1], c[2], c[3])
	}
}

// smallVec has small numbers, a 0 now and then.
func smallVec(noise *rand.Rand, length int) []impl.Rat {
	var x []impl.Rat
	for range length {
		x = append(x, ratOfInts(int64(noise.Intn(9)-4), int64(1+noise.Intn(3))))
	}
	return x
}

func TestMeaningOfNoise(t *testing.T) {
	noise := rand.New(rand.NewSource(61))
	seen := map[string]int{}
	for i := range 2500 {
		w := grownTwig(noise, 1+i%24, 1+i%8)
		length := w.axes() + noise.Intn(impl.MaxDim+1-w.axes())
		x, v := smallVec(noise, max(length, 1)), smallVec(noise, max(length, 1))
		if i%5 == 0 {
			x, v = noisyVec(noise, max(length, 1)), noisyVec(noise, max(length, 1))
		}
		for name, code := range checkMeaning(t, w.expr(), x, v) {
			seen[name+" "+impl.CodeWord(code)]++
		}
	}
	for name := range meaningCalls() {
		for _, word := range []string{"ok", "domain", "full"} {
			if seen[name+" "+word] < 100 {
				t.Errorf("%s %s: %d times", name, word, seen[name+" "+word])
			}
		}
	}
}

// Every way to put one kind of node over another, up to four of them, at a few points.
func TestMeaningOfChains(t *testing.T) {
	noise := rand.New(rand.NewSource(62))
	for length, ways := 0, 1; length < 5; length, ways = length+1, ways*4 {
		for digits := range ways {
			w := chainTwig(length, digits+ways*noise.Intn(1000), 4)
			checkMeaning(t, w.expr(), smallVec(noise, impl.MaxDim), smallVec(noise, impl.MaxDim))
			checkMeaning(t, w.expr(), vecOfInts(0, 0, 0, 0)[:max(w.axes(), 1)], vecOfInts(1, 1, 1, 1)[:max(w.axes(), 1)])
		}
	}
	for count := 1; count <= impl.MaxNodes; count++ {
		checkMeaning(t, evenTwig(count).expr(), smallVec(noise, 2), smallVec(noise, 2))
	}
	for range 60 {
		checkMeaning(t, chainTwig(11, noise.Intn(1<<22), 4).expr(), smallVec(noise, impl.MaxDim), smallVec(noise, impl.MaxDim))
	}
}

// tameTwig has no great numbers, so that the laws below have something to hold of.
func tameTwig(noise *rand.Rand, room, deep int) *twig {
	kind := noise.Intn(10)
	switch {
	case room >= 3 && deep > 1 && kind < 7:
		left := 1 + noise.Intn(room-2)
		return twigOf(3+noise.Intn(4), tameTwig(noise, left, deep-1), tameTwig(noise, room-1-left, deep-1))
	case room >= 2 && deep > 1 && kind < 8:
		return negOf(tameTwig(noise, room-1, deep-1))
	case room >= 2 && deep > 1:
		return powOf(tameTwig(noise, room-1, deep-1), noise.Intn(4))
	case kind < 7:
		return leafVar(noise.Intn(4))
	}
	return leafConst(noise.Intn(5))
}

func TestSlopeIsTheGradientWithTheWay(t *testing.T) {
	noise := rand.New(rand.NewSource(63))
	held := 0
	for i := range 1500 {
		e := tameTwig(noise, 1+i%40, 1+i%10).expr()
		x, v := smallVec(noise, impl.MaxDim), smallVec(noise, impl.MaxDim)
		value, code := impl.ValueOf(e, x)
		same, slope, slopeCode := impl.SlopeOf(e, x, v)
		grad, gradCode := impl.GradOf(e, x)
		if max(code, slopeCode, gradCode) != impl.OK {
			continue
		}
		held++
		if due, code := impl.Dot(grad, v); code != impl.OK || !sameRat(slope, due) || !sameRat(value, same) {
			t.Errorf("%s: slope %v, gradient with the way %v, %d; value %v, %v", briefNodes(e.Nodes), slope, due, code, value, same)
		}
	}
	if held < 500 {
		t.Errorf("held of %d", held)
	}
}

func TestSecondSlopesAreTheirOwnMirror(t *testing.T) {
	noise := rand.New(rand.NewSource(64))
	held := 0
	for i := range 700 {
		e := tameTwig(noise, 1+i%40, 1+i%10).expr()
		n := impl.MaxDim
		x, v := smallVec(noise, n), smallVec(noise, n)
		hess, code := impl.HessOf(e, x)
		curve, curveCode := impl.CurveOf(e, x, v)
		if max(code, curveCode) != impl.OK {
			continue
		}
		held++
		for j := range n {
			row := hess[j*n : (j+1)*n]
			along, code := impl.CurveOf(e, x, axisVec(j, n))
			if code != impl.OK || !impl.SameVec(along, row) {
				t.Errorf("%s: row %d is %v, CurveOf along the axis %v, %d", briefNodes(e.Nodes), j, row, along, code)
			}
			for k := range j {
				if !sameRat(hess[j*n+k], hess[k*n+j]) {
					t.Errorf("%s: HessOf at %d and %d: %v, the other way %v", briefNodes(e.Nodes), j, k, hess[j*n+k], hess[k*n+j])
				}
			}
		}
		if due, code := impl.MatVec(hess, v); code != impl.OK || !impl.SameVec(due, curve) {
			t.Errorf("%s: CurveOf %v; HessOf with the way %v, %d", briefNodes(e.Nodes), curve, due, code)
		}
	}
	if held < 250 {
		t.Errorf("held of %d", held)
	}
}

// lowTwig has at most that degree.
func lowTwig(noise *rand.Rand, degree, deep int) *twig {
	if deep == 0 {
		if degree > 0 && noise.Intn(4) > 0 {
			return leafVar(noise.Intn(4))
		}
		return leafConst(noise.Intn(6))
	}
	switch noise.Intn(7) {
	case 0, 1:
		return twigOf(3+noise.Intn(2), lowTwig(noise, degree, deep-1), lowTwig(noise, degree, deep-1))
	case 2, 3:
		part := noise.Intn(degree + 1)
		return twigOf(5, lowTwig(noise, part, deep-1), lowTwig(noise, degree-part, deep-1))
	case 4:
		return twigOf(6, lowTwig(noise, degree, deep-1), twigOf(3, leafConst(1), powOf(lowTwig(noise, 0, deep-1), 2)))
	case 5:
		return negOf(lowTwig(noise, degree, deep-1))
	}
	if degree == 2 {
		return powOf(lowTwig(noise, 1, deep-1), 2)
	}
	return powOf(lowTwig(noise, degree, deep-1), noise.Intn(2))
}

// The theorem of quadratics: at x and v the value is that at x, the slope, and half the curve with v.
func TestTheoremOfQuadratics(t *testing.T) {
	noise := rand.New(rand.NewSource(65))
	ok, one, half := must(t), ratOfInts(1, 1), ratOfInts(1, 2)
	bent := 0
	for i := range 800 {
		w := lowTwig(noise, 2, 1+i%4)
		e := w.expr()
		if !impl.ExprOK(e) {
			continue
		}
		n := max(w.axes(), 1+noise.Intn(impl.MaxDim))
		x := smallVec(noise, n)
		ways := [][]impl.Rat{smallVec(noise, n), noisyVec(noise, n), axisVec(noise.Intn(n), n), ratsAlike(ratOfInts(0, 1), n)}
		for _, v := range ways {
			value, slope, code := impl.SlopeOf(e, x, v)
			curve, curveCode := impl.CurveOf(e, x, v)
			there, thereCode := impl.Axpy(one, x, v)
			if max(code, curveCode, thereCode) != impl.OK {
				t.Errorf("%s at %s along %s: codes %d, %d, %d", w.text(), briefVec(x), briefVec(v), code, curveCode, thereCode)
				continue
			}
			part := ok(impl.MulRat(half, ok(impl.Dot(curve, v))))
			due := ok(impl.AddRat(value, ok(impl.AddRat(slope, part))))
			if got := ok(impl.ValueOf(e, there)); !sameRat(got, due) {
				t.Errorf("%s at %s and %s = %v; want %v", w.text(), briefVec(x), briefVec(v), got, due)
			}
			if len(part.Num) > 0 {
				bent++
			}
		}
	}
	if bent < 300 {
		t.Errorf("%d with a curve", bent)
	}
}
