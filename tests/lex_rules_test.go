package tests

import (
	"fmt"
	"slices"
	"strings"
	"testing"

	"loop.example/g00615/impl"
)

func lexed(text string) answer {
	list, code := impl.Lex(text)
	return answer{tokens: list, code: code}
}

func joined(list []impl.Token) answer {
	text, code := impl.JoinTokens(list)
	return answer{text: text, code: code}
}

func tokenTold(k impl.Token) answer {
	text, code := impl.TokenText(k)
	return answer{text: text, code: code}
}

func TestLexOfManyTokens(t *testing.T) {
	for _, part := range []string{"+", "x3", " 7", "- ", " 999999999 ", "x0 "} {
		most := strings.Repeat(part, impl.MaxTokens)
		list, code := impl.Lex(most)
		if len(list) != impl.MaxTokens || code != impl.OK {
			t.Errorf("Lex of %d times %q = %d tokens, %d", impl.MaxTokens, part, len(list), code)
		}
		if got := lexed(most + strings.Repeat(" ", 50)); got.code != impl.OK || len(got.tokens) != impl.MaxTokens {
			t.Errorf("Lex of %d times %q and blanks: code %d", impl.MaxTokens, part, got.code)
		}
		for _, more := range []int{1, 2, 50} {
			if got := lexed(most + strings.Repeat(part, more)); !got.zeroBut(impl.ErrMany) {
				t.Errorf("Lex of %d times %q = %d tokens, code %d; want ErrMany alone", impl.MaxTokens+more, part, len(got.tokens), got.code)
			}
		}
	}
}

func TestLexCodesWhicheverComesFirst(t *testing.T) {
	most, fewer := strings.Repeat("+", impl.MaxTokens), strings.Repeat("+", impl.MaxTokens-1)
	for name, c := range map[string]struct {
		text string
		code int
	}{
		"form ahead of all":             {"!" + most + "+", impl.ErrForm},
		"form ahead of the last two":    {fewer + "!" + "++", impl.ErrForm},
		"form in the place of the next": {most + "!", impl.ErrForm},
		"no variable there":             {most + "x", impl.ErrForm},
		"no variable there, and more":   {most + "x4+++", impl.ErrForm},
		"no number there":               {most + "01", impl.ErrForm},
		"a number too long there":       {most + " 1234567890", impl.ErrForm},
		"form behind too many":          {most + "+!", impl.ErrMany},
		"a bad number behind too many":  {most + "x1" + "01", impl.ErrMany},
		"a variable, then form":         {most + "x0!", impl.ErrMany},
		"two close together at the end": {fewer + "x12", impl.ErrMany},
		"one at the end":                {fewer + "12", impl.OK},
		"a tab behind the last":         {most + "\t", impl.ErrForm},
		"many of the longest text":      {strings.Repeat("+", impl.MaxText), impl.ErrMany},
		"form of the longest text":      {strings.Repeat("x", impl.MaxText), impl.ErrForm},
		"form at the longest's end":     {strings.Repeat(" ", impl.MaxText-1) + "x", impl.ErrForm},
		"one at the longest's end":      {strings.Repeat(" ", impl.MaxText-1) + "(", impl.OK},
		"long of signs":                 {strings.Repeat("+", impl.MaxText+1), impl.ErrLong},
		"long of blanks":                {strings.Repeat(" ", impl.MaxText+1), impl.ErrLong},
		"long ahead of form":            {"!" + strings.Repeat(" ", impl.MaxText), impl.ErrLong},
		"long ahead of many":            {most + "+" + strings.Repeat(" ", impl.MaxText), impl.ErrLong},
		"long of digits":                {strings.Repeat("9", 2*impl.MaxText), impl.ErrLong},
	} {
		got := lexed(c.text)
		if c.code != impl.OK && !got.zeroBut(c.code) || got.code != c.code {
			t.Errorf("%s: Lex = %d tokens, code %d; want code %d", name, len(got.tokens), got.code, c.code)
		}
		if _, due := dueTokens(c.text); due != c.code {
			t.Errorf("%s: due is %d, not %d", name, due, c.code)
		}
	}
}

func TestTokenTextOfNoToken(t *testing.T) {
	for _, bad := range badTokens() {
		if got := tokenTold(bad); !got.zeroBut(impl.ErrBad) {
			t.Errorf("TokenText of kind %d, %d, %s = %s, %d; want ErrBad alone", bad.Kind, bad.N, briefText(bad.T), briefText(got.text), got.code)
		}
	}
}

func TestJoinTokensCodesInOrder(t *testing.T) {
	good := variable(2)
	for _, bad := range badTokens() {
		for _, c := range []struct {
			count, place, code int
		}{
			{1, 0, impl.ErrBad}, {3, 0, impl.ErrBad}, {3, 1, impl.ErrBad}, {3, 2, impl.ErrBad},
			{impl.MaxTokens, 0, impl.ErrBad}, {impl.MaxTokens, impl.MaxTokens - 1, impl.ErrBad},
			{impl.MaxTokens + 1, 0, impl.ErrMany}, {impl.MaxTokens + 1, impl.MaxTokens, impl.ErrMany},
		} {
			list := slices.Repeat([]impl.Token{good}, c.count)
			list[c.place] = bad
			if got := joined(list); !got.zeroBut(c.code) {
				t.Errorf("JoinTokens of %d, a bad one at %d = %s, %d; want code %d alone", c.count, c.place, briefText(got.text), got.code, c.code)
			}
		}
	}
	for _, k := range []impl.Token{good, {}} {
		for count, code := range map[int]int{impl.MaxTokens + 1: impl.ErrMany, impl.MaxList: impl.ErrMany, impl.MaxList + 1: impl.ErrLong, 3 * impl.MaxList: impl.ErrLong} {
			if got := joined(slices.Repeat([]impl.Token{k}, count)); !got.zeroBut(code) {
				t.Errorf("JoinTokens of %d times %v = %s, %d; want code %d alone", count, k, briefText(got.text), got.code, code)
			}
		}
	}
}

// spareTokens has room behind its end, which no call may write into.
func spareTokens(list []impl.Token) []impl.Token {
	room := append(slices.Clone(list), impl.Token{Kind: mark}, impl.Token{T: "mark"})
	return room[:len(list)]
}

func untouchedTokens(list, was []impl.Token) bool {
	behind := list[:len(list)+2][len(list):]
	return slices.Equal(list, was) && behind[0] == impl.Token{Kind: mark} && behind[1] == impl.Token{T: "mark"}
}

func spoilTokens(list []impl.Token) {
	room := list[:cap(list)]
	for i := range room {
		room[i] = impl.Token{Kind: -5, N: -5, T: "spoilt"}
	}
}

func sampleTexts() []string {
	return []string{
		"", "  ", "x12", "12*x3-(x0 ^2)/0", "+", "999999999", "x0 !", "01", "x", "\xff+", "((1))", strings.Repeat("x1", impl.MaxTokens),
		strings.Repeat("-", impl.MaxTokens+1), strings.Repeat(" ", impl.MaxText), strings.Repeat(" ", impl.MaxText+1),
	}
}

func sampleLists() [][]impl.Token {
	lists := [][]impl.Token{nil, {}, allTokens(), badTokens()[:1], append(allTokens(), badTokens()...), slices.Repeat([]impl.Token{punct("*")}, impl.MaxTokens), slices.Repeat([]impl.Token{number(5)}, impl.MaxTokens+1)}
	for _, k := range allTokens() {
		lists = append(lists, []impl.Token{k}, []impl.Token{variable(1), k, punct(")")})
	}
	return lists
}

func TestJoinTokensChangesNothing(t *testing.T) {
	for _, list := range sampleLists() {
		given := spareTokens(list)
		told := joined(given).String()
		if !untouchedTokens(given, list) {
			t.Errorf("JoinTokens(%s) changed its argument", briefTokens(list))
		}
		if again := joined(list).String(); again != told {
			t.Errorf("JoinTokens(%s) = %s, then %s", briefTokens(list), told, again)
		}
		spoilTokens(given)
		if again := joined(list).String(); again != told {
			t.Errorf("JoinTokens(%s) = %s, and %s when another list was written over", briefTokens(list), told, again)
		}
	}
}

func TestLexAnswersNewMemory(t *testing.T) {
	for _, text := range sampleTexts() {
		first, second := lexed(text), lexed(text)
		told := first.String()
		spoilTokens(first.tokens)
		if second.String() != told {
			t.Errorf("two answers of Lex(%s) share memory", briefText(text))
		}
		if again := lexed(text).String(); again != told {
			t.Errorf("Lex(%s) = %s after its answer was written over, ahead of that %s", briefText(text), again, told)
		}
	}
}

func TestTokenAnswersDoNotHangOnEarlierCalls(t *testing.T) {
	texts, lists, all := sampleTexts(), sampleLists(), append(allTokens(), badTokens()...)
	checkAnyOrder(t, len(all), func(i int, told map[string]string) {
		told[fmt.Sprint("Lex", i)] = lexed(texts[i%len(texts)]).String()
		told[fmt.Sprint("JoinTokens", i)] = joined(lists[i%len(lists)]).String()
		told[fmt.Sprint("TokenText", i)] = tokenTold(all[i]).String() + fmt.Sprint(impl.TokenOK(all[i]))
	})
}
