package tests

import (
	"math"
	"strings"
	"testing"

	"loop.example/g00615/impl"
)

func TestCodesAndWords(t *testing.T) {
	words := []struct {
		code   int
		number int
		word   string
	}{
		{impl.OK, 0, "ok"},
		{impl.ErrBad, 1, "bad"},
		{impl.ErrLong, 2, "long"},
		{impl.ErrForm, 3, "form"},
		{impl.ErrRange, 4, "range"},
		{impl.ErrNone, 5, "none"},
		{impl.ErrMany, 6, "many"},
		{impl.ErrFull, 7, "full"},
		{impl.ErrSize, 8, "size"},
		{impl.ErrZero, 9, "zero"},
		{impl.ErrDomain, 10, "domain"},
		{impl.ErrBelow, 11, "below"},
		{impl.ErrDeep, 12, "deep"},
		{impl.ErrName, 13, "name"},
		{impl.ErrSolver, 14, "solver"},
		{impl.ErrBudget, 15, "budget"},
		{impl.ErrLimit, 16, "limit"},
		{impl.ErrSearch, 17, "search"},
		{impl.ErrBox, 18, "box"},
		{impl.ErrAudit, 19, "audit"},
	}
	for _, w := range words {
		if w.code != w.number {
			t.Errorf("%s has code %d, want %d", w.word, w.code, w.number)
		}
		if got := impl.CodeWord(w.number); got != w.word {
			t.Errorf("CodeWord(%d) = %q, want %q", w.number, got, w.word)
		}
		if got := impl.CodeOf(w.word); got != w.number {
			t.Errorf("CodeOf(%q) = %d, want %d", w.word, got, w.number)
		}
	}
}

func TestCodeWordOfOtherNumbers(t *testing.T) {
	for _, code := range []int{-1, 20, 21, 1000, -20, math.MinInt, math.MaxInt} {
		if got := impl.CodeWord(code); got != "" {
			t.Errorf("CodeWord(%d) = %q, want none", code, got)
		}
	}
}

func TestCodeOfOtherTexts(t *testing.T) {
	long := strings.Repeat("o", impl.MaxText+1)
	for _, word := range []string{"", "OK", "Ok", "ok ", " ok", "okay", "o", "ba", "audits", "0", "ErrBad", "ok\x00", "\xff", long, "ok" + long} {
		if got := impl.CodeOf(word); got != -1 {
			t.Errorf("CodeOf of %d bytes = %d, want -1", len(word), got)
		}
	}
}

func TestNameOK(t *testing.T) {
	for _, name := range []string{"a", "z", "A", "Z", "_", "__", "x0", "_9", "a_b", "Zebra09", strings.Repeat("n", impl.MaxName)} {
		if !impl.NameOK(name) {
			t.Errorf("NameOK(%q) = false", name)
		}
	}
	bad := []string{
		"", "0", "9a", "0_", " a", "a ", "a b", "a-b", "-", "a.b", "é", "aé", "a\x00", "\xff", "a\n",
		"@", "[", "`", "{", "/", ":", "a@", "a[", "a`", "a{", "a/", "a:",
		strings.Repeat("n", impl.MaxName+1),
		strings.Repeat("n", impl.MaxText),
		strings.Repeat("n", impl.MaxText+1),
	}
	for _, name := range bad {
		if impl.NameOK(name) {
			t.Errorf("NameOK of %.20q (%d bytes) = true", name, len(name))
		}
	}
}

func TestNameOKOfEachByte(t *testing.T) {
	const first = "ABCDEFGHIJKLMNOPQRSTUVWXYZ_abcdefghijklmnopqrstuvwxyz"
	const later = first + "0123456789"
	for b := range 256 {
		text := string([]byte{byte(b)})
		if got, want := impl.NameOK(text), strings.Contains(first, text); got != want {
			t.Errorf("NameOK(%q) = %v", text, got)
		}
		if got, want := impl.NameOK("q"+text), strings.Contains(later, text); got != want {
			t.Errorf("NameOK(%q) = %v", "q"+text, got)
		}
	}
}
