package tests

import (
	"fmt"
	"math"
	"math/rand"
	"slices"
	"strconv"
	"strings"
	"testing"

	"loop.example/g00615/impl"
)

const puncts = "+-*/^()"

func number(n int) impl.Token   { return impl.Token{Kind: impl.TkNumber, N: n} }
func variable(n int) impl.Token { return impl.Token{Kind: impl.TkVar, N: n} }
func punct(t string) impl.Token { return impl.Token{Kind: impl.TkPunct, T: t} }

// dueTokens reads a text without the program, byte by byte from its beginning.
func dueTokens(t string) ([]impl.Token, int) {
	if len(t) > 65536 {
		return nil, impl.ErrLong
	}
	var list []impl.Token
	for i := 0; i < len(t); {
		end := i + 1
		var k impl.Token
		switch {
		case t[i] == 32:
			i++
			continue
		case strings.IndexByte(puncts, t[i]) >= 0:
			k = punct(t[i:end])
		case t[i] == 'x' && end < len(t) && strings.IndexByte("0123", t[end]) >= 0:
			k = variable(int(t[end]) - 48)
			end++
		case t[i] >= '0' && t[i] <= '9':
			for end < len(t) && t[end] >= '0' && t[end] <= '9' {
				end++
			}
			n, err := strconv.Atoi(t[i:end])
			if err != nil || n > 999999999 || strconv.Itoa(n) != t[i:end] {
				return nil, impl.ErrForm
			}
			k = number(n)
		default:
			return nil, impl.ErrForm
		}
		if list = append(list, k); len(list) > 400 {
			return nil, impl.ErrMany
		}
		i = end
	}
	return list, impl.OK
}

func briefText(t string) string {
	if len(t) > 60 {
		return fmt.Sprintf("%.40q..(%d bytes)", t, len(t))
	}
	return strconv.Quote(t)
}

func briefTokens(list []impl.Token) string {
	if len(list) > 20 {
		return fmt.Sprintf("%v..(%d tokens)", list[:20], len(list))
	}
	return fmt.Sprint(list)
}

func checkLex(t *testing.T, text string, want []impl.Token, wantCode int) {
	t.Helper()
	list, code := impl.Lex(text)
	if !slices.Equal(list, want) || code != wantCode {
		t.Errorf("Lex(%s) = %s, %d; want %s, %d", briefText(text), briefTokens(list), code, briefTokens(want), wantCode)
	}
	for _, k := range list {
		if !impl.TokenOK(k) {
			t.Errorf("Lex(%s) has %v, which is not right", briefText(text), k)
		}
	}
}

// allNumbers has both ends, each count of digits, and noughts within and behind.
func allNumbers() []int {
	list := []int{0, 999999998, 999999999}
	for n := 1; n <= 100000000; n *= 10 {
		list = append(list, n, n+1, n*9, n*10-1, n+n/10)
	}
	return list
}

func allTokens() []impl.Token {
	var list []impl.Token
	for _, n := range allNumbers() {
		list = append(list, number(n))
	}
	for n := range 4 {
		list = append(list, variable(n))
	}
	for _, sign := range strings.Split(puncts, "") {
		list = append(list, punct(sign))
	}
	return list
}

// badTokens has all that is no token: another kind, a number out of its bounds, another text, and what a token has no use for.
func badTokens() []impl.Token {
	list := []impl.Token{{}, {N: 1}, {T: "+"}, {Kind: 4}, {Kind: -1}, {Kind: 4, T: "+"}, {Kind: math.MaxInt, N: 3}, {Kind: math.MinInt}}
	for _, n := range []int{-1, -999999999, 1000000000, 1 << 32, 1<<32 + 1, math.MinInt, math.MaxInt} {
		list = append(list, number(n), variable(n))
	}
	for _, n := range []int{4, 5, 9, 10, 999999999} {
		list = append(list, variable(n))
	}
	for _, k := range []impl.Token{number(0), number(7), number(999999999), variable(0), variable(3)} {
		for _, text := range []string{"x", "x3", "7", "0", "+", " ", "\x00"} {
			list = append(list, impl.Token{Kind: k.Kind, N: k.N, T: text})
		}
	}
	for _, n := range []int{-1, 1, 3, math.MinInt, math.MaxInt} {
		list = append(list, impl.Token{Kind: impl.TkPunct, N: n, T: "+"}, impl.Token{Kind: impl.TkPunct, N: n, T: ")"})
	}
	for _, text := range []string{"", "+-", "()", "++", "+-*/^()", "+ ", " +", " ", "x", "1", "!", "x0", "**", "×", "−", "\u012b", "+\x00", "\xff", strings.Repeat("+", impl.MaxText+1)} {
		list = append(list, punct(text))
	}
	return list
}

func TestTokenConstants(t *testing.T) {
	if impl.TkNumber != 1 || impl.TkVar != 2 || impl.TkPunct != 3 || impl.MaxTokens != 400 {
		t.Error("a constant of chapter 5 is another one")
	}
}

func TestTokenOK(t *testing.T) {
	for _, k := range allTokens() {
		if !impl.TokenOK(k) {
			t.Errorf("TokenOK(%v) = false", k)
		}
	}
	for _, k := range badTokens() {
		if impl.TokenOK(k) {
			t.Errorf("TokenOK of kind %d, %d, %s = true", k.Kind, k.N, briefText(k.T))
		}
	}
}

func TestTokenOKOfAllThatIsSmall(t *testing.T) {
	texts := []string{""}
	for b := range 256 {
		texts = append(texts, string([]byte{byte(b)}), string(rune(b)), "+"+string([]byte{byte(b)}))
	}
	for kind := -2; kind < 8; kind++ {
		for n := -3; n < 12; n++ {
			for _, text := range texts {
				want := (kind == 1 && n >= 0 || kind == 2 && n >= 0 && n <= 3) && text == "" || kind == 3 && n == 0 && len(text) == 1 && strings.Contains(puncts, text)
				if got := impl.TokenOK(impl.Token{Kind: kind, N: n, T: text}); got != want {
					t.Errorf("TokenOK of kind %d, %d, %q = %v", kind, n, text, got)
				}
			}
		}
	}
}

func TestTokenText(t *testing.T) {
	for text, k := range map[string]impl.Token{"0": number(0), "10": number(10), "999999999": number(999999999), "x0": variable(0), "x3": variable(3)} {
		if got, code := impl.TokenText(k); got != text || code != impl.OK {
			t.Errorf("TokenText(%v) = %q, %d; want %q", k, got, code, text)
		}
	}
	for _, sign := range strings.Split(puncts, "") {
		if got, code := impl.TokenText(punct(sign)); got != sign || code != impl.OK {
			t.Errorf("TokenText of %s = %q, %d", sign, got, code)
		}
	}
}

func TestTokensReadBackFromTheirTexts(t *testing.T) {
	for _, k := range allTokens() {
		text, code := impl.TokenText(k)
		if code != impl.OK {
			t.Errorf("TokenText(%v) = %q, %d", k, text, code)
		}
		checkLex(t, text, []impl.Token{k}, impl.OK)
		joined, code := impl.JoinTokens([]impl.Token{k})
		if joined != text || code != impl.OK {
			t.Errorf("JoinTokens of %v alone = %q, %d; want %q", k, joined, code, text)
		}
	}
	for n := range 20000 {
		text, _ := impl.TokenText(number(n))
		if text != strconv.Itoa(n) {
			t.Fatalf("TokenText of %d = %q", n, text)
		}
		checkLex(t, text, []impl.Token{number(n)}, impl.OK)
	}
}

func TestListsOfTokensReadBackFromTheirTexts(t *testing.T) {
	noise := rand.New(rand.NewSource(21))
	all := allTokens()
	for _, k := range all {
		for _, next := range all {
			checkJoined(t, []impl.Token{k, next})
		}
	}
	for i := range 600 {
		var list []impl.Token
		for range i % (impl.MaxTokens + 1) {
			if noise.Intn(3) == 0 {
				list = append(list, number(noise.Intn(1000000000)))
			} else {
				list = append(list, all[noise.Intn(len(all))])
			}
		}
		checkJoined(t, list)
	}
	checkJoined(t, slices.Repeat([]impl.Token{number(999999999)}, impl.MaxTokens))
}

// checkJoined wants the texts of the tokens with one blank between, and the tokens back from that.
func checkJoined(t *testing.T, list []impl.Token) {
	t.Helper()
	var parts []string
	for _, k := range list {
		part, _ := impl.TokenText(k)
		parts = append(parts, part)
	}
	text, code := impl.JoinTokens(list)
	if text != strings.Join(parts, " ") || code != impl.OK {
		t.Errorf("JoinTokens(%s) = %q, %d", briefTokens(list), text, code)
	}
	checkLex(t, text, list, impl.OK)
}

func TestJoinTokensOfNone(t *testing.T) {
	for _, list := range [][]impl.Token{nil, {}} {
		if text, code := impl.JoinTokens(list); text != "" || code != impl.OK {
			t.Errorf("JoinTokens of no token = %q, %d", text, code)
		}
	}
}

func TestLexOfWhatStandsCloseTogether(t *testing.T) {
	plus, minus, open, shut := punct("+"), punct("-"), punct("("), punct(")")
	for text, want := range map[string][]impl.Token{
		"x12":             {variable(1), number(2)},
		"x00":             {variable(0), number(0)},
		"x01":             {variable(0), number(1)},
		"x3999999999":     {variable(3), number(999999999)},
		"x1x2x3x0":        {variable(1), variable(2), variable(3), variable(0)},
		"1x2":             {number(1), variable(2)},
		"0x0":             {number(0), variable(0)},
		"12x034":          {number(12), variable(0), number(34)},
		"1-1":             {number(1), minus, number(1)},
		"-1":              {minus, number(1)},
		"--1":             {minus, minus, number(1)},
		"+0":              {plus, number(0)},
		"0+0":             {number(0), plus, number(0)},
		"0 0":             {number(0), number(0)},
		"0 1":             {number(0), number(1)},
		"1 2":             {number(1), number(2)},
		"x1 2":            {variable(1), number(2)},
		"999999999 9":     {number(999999999), number(9)},
		"999999999x0":     {number(999999999), variable(0)},
		"()":              {open, shut},
		")(":              {shut, open},
		"((x0)2)":         {open, open, variable(0), shut, number(2), shut},
		"x0^2":            {variable(0), punct("^"), number(2)},
		"**":              {punct("*"), punct("*")},
		"1/2*x3":          {number(1), punct("/"), number(2), punct("*"), variable(3)},
		"   x0   +  1   ": {variable(0), plus, number(1)},
		"+-*/^()":         {plus, minus, punct("*"), punct("/"), punct("^"), open, shut},
	} {
		checkLex(t, text, want, impl.OK)
	}
}

func TestLexOfNothing(t *testing.T) {
	for _, text := range []string{"", " ", "  ", strings.Repeat(" ", 401), strings.Repeat(" ", impl.MaxText)} {
		checkLex(t, text, nil, impl.OK)
	}
}

func TestLexOfNoToken(t *testing.T) {
	forms := []string{
		"x", "x ", " x", "x 0", "x+", "x-1", "x4", "x5", "x9", "x40", "x/", "x:", "x\x00", "xx", "xx0", "x0x", "x0x4", "x\xff", "x１",
		"X0", "y", "y0", "a", "z", "_", "00", "01", "007", "x0012", "x100", "0x00x", "1 01", "1+02", "0000000001", "00000000000000000001",
		"1000000000", "1234567890", "9999999999", "x01234567890", "9223372036854775808", "18446744073709551617", strings.Repeat("9", impl.MaxText),
		"1.5", "1e3", "1_0", "0x1F", "%", "!", "#", "=", "[", "]", "{", ",", ".", "\\", "~", "'", "\"",
		"\t", "\n", "\r", "1\t", "\tx0", "x0\n", "\x00", "\x1f", "\x7f", "\xa0", "\xff", "\u00a0", "\u3000", "\ufffd", "\u2212", "×", "²", "x²", "１", "٣", "\xc0\xab", "+\x80", "x0 !", "(x0 + 1) y",
	}
	for _, text := range forms {
		checkLex(t, text, nil, impl.ErrForm)
	}
}

func TestLexOfEachByte(t *testing.T) {
	for b := range 256 {
		one := string([]byte{byte(b)})
		for _, text := range []string{one, "x" + one, one + "2", "x1" + one, "12" + one, "+" + one, " " + one + " ", "x" + one + "0", "0" + one} {
			want, code := dueTokens(text)
			checkLex(t, text, want, code)
		}
	}
}

// Each text of up to five bytes of a few, ones that begin, go on or end a token among them.
func TestLexOfShortTexts(t *testing.T) {
	const bytes = "013 4x-(!\xc3"
	texts := []string{""}
	for range 5 {
		var longer []string
		for _, text := range texts {
			for i := range len(bytes) {
				longer = append(longer, text+bytes[i:i+1])
			}
		}
		for _, text := range longer {
			want, code := dueTokens(text)
			checkLex(t, text, want, code)
		}
		texts = longer
	}
}

func TestLexOfNoise(t *testing.T) {
	noise := rand.New(rand.NewSource(22))
	parts := []string{"0", "1", "10", "999999999", "x0", "x1", "x2", "x3", "+", "-", "*", "/", "^", "(", ")", ""}
	odd := []string{"x", "x4", "01", "1000000000", "!", "\t", "\xff"}
	seen := map[int]int{}
	for i := range 4000 {
		list := make([]string, noise.Intn(500))
		for k := range list {
			list[k] = parts[noise.Intn(len(parts))]
			if i%4 == 3 && noise.Intn(400) == 0 {
				list[k] = odd[noise.Intn(len(odd))]
			}
		}
		// Close together digits soon make what is no number; with blanks between, most texts are right.
		text := strings.Join(list, strings.Repeat(" ", i%3))
		want, code := dueTokens(text)
		seen[code]++
		checkLex(t, text, want, code)
	}
	if seen[impl.OK] < 100 || seen[impl.ErrForm] < 100 || seen[impl.ErrMany] < 100 {
		t.Errorf("codes that were due: %v", seen)
	}
}

// What is read is alike however it is joined, and joined again it is the same text.
func TestTextsThatAreReadAndJoined(t *testing.T) {
	for text, want := range map[string]string{
		"12*x3-(x0 ^2)/0":                       "12 * x3 - ( x0 ^ 2 ) / 0",
		"x12":                                   "x1 2",
		"   ":                                   "",
		"(x0 - 3)^2 + 2 * (x1 + 1)^2":           "( x0 - 3 ) ^ 2 + 2 * ( x1 + 1 ) ^ 2",
		"((((x2))))":                            "( ( ( ( x2 ) ) ) )",
		"-x0--x1":                               "- x0 - - x1",
		"999999999x3" + strings.Repeat(" ", 99): "999999999 x3",
	} {
		list, code := impl.Lex(text)
		joined, joinCode := impl.JoinTokens(list)
		if joined != want || code != impl.OK || joinCode != impl.OK {
			t.Errorf("%s is read and joined: %q, %d, %d; want %q", briefText(text), joined, code, joinCode, want)
		}
		checkLex(t, joined, list, impl.OK)
	}
}
