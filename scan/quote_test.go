package scan_test

import (
	"slices"
	"strings"
	"testing"
	"unsafe"

	"drayage/api"
	"drayage/scan"
)

// TestQuote (P4.2): texts, and the strings that stand for them.
func TestQuote(t *testing.T) {
	for s, want := range map[string]string{
		"":                  `""`,
		"a":                 `"a"`,
		" ":                 `" "`,
		"cpu=2,mem=1Gi":     `"cpu=2,mem=1Gi"`,
		`"`:                 `"\""`,
		`\`:                 `"\\"`,
		"\n":                `"\n"`,
		`\n`:                `"\\n"`,
		"\\\n\"":            `"\\\n\""`,
		"a\"界\n":            `"a\"界\n"`,
		"#;{}":              `"#;{}"`,
		"\x7f\u0085\u2028é": "\"\x7f\u0085\u2028é\"",
		"🙂\ufffd":           "\"🙂\ufffd\"",
		"'":                 `"'"`,
	} {
		if got, e := scan.Quote(s); got != want || e != api.OK {
			t.Errorf("Quote(%q): %q, error %d", s, got, e)
		}
	}
}

// TestQuoteRefuses (P4.2): runes below 32 but 10, and what is no UTF-8, wherever they stand.
func TestQuoteRefuses(t *testing.T) {
	bad := []string{"\x80", "\xc0\x80", "\xc3", "\xe2\x82", "\xed\xa0\x80", "\xf0\x9f\x99", "\xf4\x90\x80\x80", "\xff"}
	for c := rune(0); c < 32; c++ {
		if c != '\n' {
			bad = append(bad, string(c))
		}
	}
	for _, x := range bad {
		for _, s := range []string{x, "a" + x, x + "a", "é" + x + "\n", "\ufffd" + x} {
			if got, e := scan.Quote(s); got != "" || e != api.ErrForm {
				t.Errorf("Quote(%q): %q, error %d", s, got, e)
			}
		}
	}
}

// TestQuotedIsRead (P4.4): words of what was quoted are just one string, with that Text.
func TestQuotedIsRead(t *testing.T) {
	check := func(s string) {
		q, e := scan.Quote(s)
		if e != api.OK {
			t.Errorf("Quote(%q): error %d", s, e)
		}
		mustRead(t, q, str(s, 1, 1))
	}
	eachText(5, []string{"a", "n", `"`, `\`, "\n", "#", " ", "é", "\ufffd"}, check)
	for c := rune(32); c < 0x11000; c++ {
		if c < 0xd800 || c > 0xdfff {
			check(string(c))
			check("a" + string(c) + "\n")
		}
	}
	check("\U0010ffff")
	check(strings.Repeat("a", 65534))
	if q, e := scan.Quote(strings.Repeat("a", 65535)); len(q) != 65537 || e != api.OK { // longer than a text, but nothing asks that of it
		t.Errorf("%d bytes, error %d", len(q), e)
	}
}

// checkApart asks that a piece has none of its bytes within the text.
func checkApart(t *testing.T, text, piece string) {
	t.Helper()
	from, at := uintptr(unsafe.Pointer(unsafe.StringData(text))), uintptr(unsafe.Pointer(unsafe.StringData(piece)))
	if from <= at && at < from+uintptr(len(text)) {
		t.Errorf("%q lies within %q", piece, text)
	}
}

// TestNewMemory (P4.3): answers lie apart from what was handed in, and one that is written to changes no later one.
func TestNewMemory(t *testing.T) {
	text := "abc 123 \"def\" { \"\\n\""
	l, _, _, _ := scan.Words(text)
	want := slices.Clone(l)
	for _, w := range l {
		checkApart(t, text, w.Text)
	}
	clear(l)
	mustRead(t, text, want...)
	q, _ := scan.Quote(text)
	checkApart(t, text, q)
}

// TestOnlyRead (P4.3): words that are handed in stay as they are, their spare room too.
func TestOnlyRead(t *testing.T) {
	l, _, _, _ := scan.Words("a b\nc d\ne")
	want := slices.Clone(l)
	for n := range len(l) + 1 {
		for from := -1; from <= n; from++ {
			scan.Line(l[:n], from)
		}
	}
	if !slices.Equal(l, want) {
		t.Errorf("%v has become %v", want, l)
	}
}
