package scan_test

import (
	"slices"
	"strings"
	"testing"
	"unicode/utf8"

	"drayage/api"
	"drayage/scan"
)

// mustRead asks for just these words.
func mustRead(t *testing.T, text string, want ...api.Word) {
	t.Helper()
	l, line, col, e := scan.Words(text)
	if !slices.Equal(l, want) || line != 0 || col != 0 || e != api.OK {
		t.Errorf("%q: %v at %d, %d, error %d, not %v", text, l, line, col, e, want)
	}
}

// mustFail asks for just this error, there, and for no words.
func mustFail(t *testing.T, text string, line, col int, e api.Errno) {
	t.Helper()
	l, gotLine, gotCol, gotE := scan.Words(text)
	if len(l) != 0 || gotLine != line || gotCol != col || gotE != e {
		t.Errorf("%q: %v at %d, %d, error %d, not %d, %d, error %d", text, l, gotLine, gotCol, gotE, line, col, e)
	}
}

func name(text string, line, col int) api.Word {
	return api.Word{Kind: 1, Text: text, Line: line, Col: col}
}
func number(text string, line, col int) api.Word {
	return api.Word{Kind: 2, Text: text, Line: line, Col: col}
}
func str(text string, line, col int) api.Word {
	return api.Word{Kind: 3, Text: text, Line: line, Col: col}
}
func sign(text string, line, col int) api.Word {
	return api.Word{Kind: 4, Text: text, Line: line, Col: col}
}

// TestExamples holds the chapter's table.
func TestExamples(t *testing.T) {
	mustRead(t, "pod a { cpu 1.5k } # x", name("pod", 1, 1), name("a", 1, 5), sign("{", 1, 7), name("cpu", 1, 9), number("1.5k", 1, 13), sign("}", 1, 18))
	mustRead(t, "\n  \"é\\\"b\"", str("é\"b", 2, 3))
	mustFail(t, "A", 1, 1, api.ErrForm)
	mustFail(t, "\"a", 1, 3, api.ErrTrunc)
	mustFail(t, "a=b", 1, 2, api.ErrForm)
	mustFail(t, "1\"x\"", 1, 2, api.ErrForm)
}

// TestNone (P4.1): texts without words.
func TestNone(t *testing.T) {
	for _, text := range []string{"", " ", "\t", "\n", "\n\n", " \t\n\t ", "#", "##", "# a 1 \"x\" {", "#\n#", " # \n\t#\n"} {
		mustRead(t, text)
	}
}

// TestNames (P4.1): a name is as long as it can be.
func TestNames(t *testing.T) {
	mustRead(t, "a", name("a", 1, 1))
	mustRead(t, "z9-", name("z9-", 1, 1))
	mustRead(t, "a--b-", name("a--b-", 1, 1))
	mustRead(t, "a1 b2\tc", name("a1", 1, 1), name("b2", 1, 4), name("c", 1, 7))
	mustRead(t, "a\nb\n", name("a", 1, 1), name("b", 2, 1))
	long := strings.Repeat("abcdefgh", 100)
	mustRead(t, long, name(long, 1, 1))
	mustFail(t, "aB", 1, 2, api.ErrForm)
	mustFail(t, "a.b", 1, 2, api.ErrForm)
	mustFail(t, "a%", 1, 2, api.ErrForm)
	mustFail(t, "ab\"x\"", 1, 3, api.ErrForm)
	mustFail(t, "a_b", 1, 2, api.ErrForm)
	mustFail(t, "aé", 1, 2, api.ErrForm)
	mustFail(t, "-a", 1, 1, api.ErrForm)
}

// TestNumbers (P4.1): what a number goes on with, and what not.
func TestNumbers(t *testing.T) {
	mustRead(t, "0", number("0", 1, 1))
	mustRead(t, "007 1.5.%%", number("007", 1, 1), number("1.5.%%", 1, 5))
	mustRead(t, "9azAZ%.", number("9azAZ%.", 1, 1))
	mustRead(t, "2Gi#x", number("2Gi", 1, 1))
	mustFail(t, "1-2", 1, 2, api.ErrForm)
	mustFail(t, "12\"x\"", 1, 3, api.ErrForm)
	mustFail(t, "1_0", 1, 2, api.ErrForm)
	mustFail(t, "1é", 1, 2, api.ErrForm)
	mustFail(t, ".5", 1, 1, api.ErrForm)
	mustFail(t, "%5", 1, 1, api.ErrForm)
	mustFail(t, "-5", 1, 1, api.ErrForm)
}

// TestStrings (P4.1): a string's Text is what it stands for.
func TestStrings(t *testing.T) {
	mustRead(t, `""`, str("", 1, 1))
	mustRead(t, `" "`, str(" ", 1, 1))
	mustRead(t, `"a#b"`, str("a#b", 1, 1))
	mustRead(t, `"\""`, str(`"`, 1, 1))
	mustRead(t, `"\\"`, str(`\`, 1, 1))
	mustRead(t, `"\n"`, str("\n", 1, 1))
	mustRead(t, `"\\n"`, str(`\n`, 1, 1))
	mustRead(t, `"\\\""`, str(`\"`, 1, 1))
	mustRead(t, `"n"`, str("n", 1, 1))
	mustRead(t, `"{};:*A=`+"\x7f\u0085\u2028界🙂\ufffd"+`"`, str("{};:*A=\x7f\u0085\u2028界🙂\ufffd", 1, 1))
	mustFail(t, `"\`+"\t"+`"`, 1, 3, api.ErrForm)
	mustFail(t, `"\x"`, 1, 3, api.ErrForm)
	mustFail(t, `"é\N"`, 1, 4, api.ErrForm)
	mustFail(t, `"\\\t"`, 1, 5, api.ErrForm)
	mustFail(t, "\"\t\"", 1, 2, api.ErrForm)
	mustFail(t, "\"a\r\n\"", 1, 3, api.ErrForm)
}

// TestTrunc (P4.1): a line that ends within a string.
func TestTrunc(t *testing.T) {
	mustFail(t, `"`, 1, 2, api.ErrTrunc)
	mustFail(t, `"\`, 1, 3, api.ErrTrunc)
	mustFail(t, `"a\"`, 1, 5, api.ErrTrunc)
	mustFail(t, "\"\n\"", 1, 2, api.ErrTrunc)
	mustFail(t, "\"\\\n\"", 1, 3, api.ErrTrunc)
	mustFail(t, "a\n  \"é界\nA", 2, 6, api.ErrTrunc)
	mustFail(t, "a\n  \"é界", 2, 6, api.ErrTrunc)
	mustFail(t, `"" "a" "`, 1, 9, api.ErrTrunc)
	mustFail(t, `""""" #`, 1, 8, api.ErrTrunc)
}

// TestSigns (P4.1): each sign is a word, whatever stands beside it.
func TestSigns(t *testing.T) {
	mustRead(t, "{}:;*", sign("{", 1, 1), sign("}", 1, 2), sign(":", 1, 3), sign(";", 1, 4), sign("*", 1, 5))
	mustRead(t, "a{1}\"x\":b;", name("a", 1, 1), sign("{", 1, 2), number("1", 1, 3), sign("}", 1, 4), str("x", 1, 5), sign(":", 1, 8), name("b", 1, 9), sign(";", 1, 10))
	mustRead(t, "**", sign("*", 1, 1), sign("*", 1, 2))
}

// TestBesideStrings (P4.1): what is apart by itself needs no blank behind it; a name and a number do.
func TestBesideStrings(t *testing.T) {
	mustRead(t, `"a"b`, str("a", 1, 1), name("b", 1, 4))
	mustRead(t, `"a"1`, str("a", 1, 1), number("1", 1, 4))
	mustRead(t, `"a""b"`, str("a", 1, 1), str("b", 1, 4))
	mustRead(t, `"a"#b`, str("a", 1, 1))
	mustRead(t, `;"a"`, sign(";", 1, 1), str("a", 1, 2))
	mustRead(t, "a\n\"b\"", name("a", 1, 1), str("b", 2, 1))
	mustFail(t, `a"b"`, 1, 2, api.ErrForm)
}

// TestComments (P4.1): from a # up to the line's end, all but what is no UTF-8 may stand.
func TestComments(t *testing.T) {
	mustRead(t, "a#b\nc", name("a", 1, 1), name("c", 2, 1))
	mustRead(t, "1#\n2", number("1", 1, 1), number("2", 2, 1))
	mustRead(t, "#\"\na", name("a", 2, 1))
	mustRead(t, "# \x00\x01\r\x1f\x7fA=é界\ufffd\\#\"\n;", sign(";", 2, 1))
	mustRead(t, "\"#\" # \"", str("#", 1, 1))
}

// TestPlaces (P4.1): lines and columns, of runes, from 1 on.
func TestPlaces(t *testing.T) {
	mustRead(t, " a\t\tb\n\n\n\tc\n", name("a", 1, 2), name("b", 1, 5), name("c", 4, 2))
	mustRead(t, "\"é界🙂\" \"\\n\\\\\" a\n\"x\"*", str("é界🙂", 1, 1), str("\n\\", 1, 7), name("a", 1, 14), str("x", 2, 1), sign("*", 2, 4))
	mustRead(t, "# é界\n a", name("a", 2, 2))
	mustFail(t, "\"é界🙂\" A", 1, 7, api.ErrForm)
	mustFail(t, "a\nb c=d\n\"", 2, 4, api.ErrForm)
	mustFail(t, strings.Repeat("\n", 1999)+" 1!", 2000, 3, api.ErrForm)
}

// TestFirst (P4.1): what is wrong first is told, whatever stands behind it.
func TestFirst(t *testing.T) {
	mustFail(t, "A\n\"", 1, 1, api.ErrForm)
	mustFail(t, "\"\nA", 1, 2, api.ErrTrunc)
	mustFail(t, "a \"\xff\n", 1, 4, api.ErrForm)
	mustFail(t, "\"a\n\xff", 1, 3, api.ErrTrunc)
	mustFail(t, "=\xff", 1, 1, api.ErrForm)
	mustFail(t, "\xff=", 1, 1, api.ErrForm)
}

// TestEachRune (P4.1): where each rune can stand: alone, behind a name and a number, in a string, behind a backslash and a #.
func TestEachRune(t *testing.T) {
	const (
		small, capital, digits  = "abcdefghijklmnopqrstuvwxyz", "ABCDEFGHIJKLMNOPQRSTUVWXYZ", "0123456789"
		blanks, signs, apart    = " \t", "{}:;*", " \t{}:;*#\n"
		behindName, behindDigit = small + digits + "-" + apart, small + capital + digits + ".%" + apart
	)
	canStand := func(c, text string, col int, can bool) {
		if can {
			if _, _, _, e := scan.Words(text); e != api.OK {
				t.Errorf("%q: error %d", text, e)
			}
		} else if c == "\n" {
			mustFail(t, text, 1, col, api.ErrTrunc)
		} else {
			mustFail(t, text, 1, col, api.ErrForm)
		}
	}
	for r := rune(0); r < 0x3000; r++ {
		c := string(r)
		if r != '"' {
			canStand(c, c, 1, strings.Contains(small+digits+signs+blanks+"#\n", c))
		}
		canStand(c, "a"+c, 2, strings.Contains(behindName, c))
		canStand(c, "1"+c, 2, strings.Contains(behindDigit, c))
		if r != '"' && r != '\\' {
			canStand(c, `"`+c+`"`, 2, r >= 32)
		}
		canStand(c, `"\`+c+`"`, 3, strings.Contains(`"\n`, c))
		canStand(c, "#"+c, 2, true)
	}
}

// TestBadBytes (P4.1): a byte that is no UTF-8 can't stand anywhere; the rune that stands for such ones is one like others.
func TestBadBytes(t *testing.T) {
	for _, bad := range []string{"\x80", "\xbf", "\xc0\x80", "\xc1\xbf", "\xc3", "\xe2\x82", "\xe0\x80\x80", "\xed\xa0\x80", "\xed\xbf\xbf", "\xef\xbf", "\xf0\x9f\x99", "\xf4\x90\x80\x80", "\xf5", "\xff"} {
		for _, ahead := range []string{"", " ", "a", "1", ";", "\"", "\"é", "\"\\", "\"a\"", "#", "# é", "\"\ufffd"} {
			for _, behind := range []string{"", " ", "\"", "\n", "a", "\ufffd"} {
				mustFail(t, ahead+bad+behind, 1, utf8.RuneCountInString(ahead)+1, api.ErrForm)
			}
		}
	}
	mustRead(t, "\"\ufffd\" # \ufffd", str("\ufffd", 1, 1))
	mustFail(t, "\ufffd", 1, 1, api.ErrForm)
	mustFail(t, "\ufeffa", 1, 1, api.ErrForm)
}

// TestLimit (P4.1): 65536 bytes, not runes, and one more.
func TestLimit(t *testing.T) {
	const most = 65536
	mustRead(t, strings.Repeat(" ", most-1)+"a", name("a", 1, most))
	mustRead(t, strings.Repeat("\n", most-1)+"a", name("a", most, 1))
	mustRead(t, strings.Repeat("a", most), name(strings.Repeat("a", most), 1, 1))
	mustRead(t, "\""+strings.Repeat("é", most/2-1)+"\"", str(strings.Repeat("é", most/2-1), 1, 1))
	mustFail(t, strings.Repeat(" ", most-1)+"A", 1, most, api.ErrForm)
	mustFail(t, "\""+strings.Repeat("a", most-1), 1, most+1, api.ErrTrunc)
	for _, unit := range []string{"a", " ", "\n", "#", "A", "\"", "\xff", ";"} {
		mustFail(t, strings.Repeat(unit, most+1), 0, 0, api.ErrLimit)
	}
	mustFail(t, "A"+strings.Repeat(" ", most), 0, 0, api.ErrLimit)
	mustFail(t, "\""+strings.Repeat("é", most/2)+"\"", 0, 0, api.ErrLimit)
	if l, _, _, e := scan.Words(strings.Repeat(";", most)); len(l) != most || e != api.OK || l[most-1] != sign(";", 1, most) {
		t.Errorf("%d signs, error %d", len(l), e)
	}
}

// TestLine (P4.2): the rest of each line, and places where there is none.
func TestLine(t *testing.T) {
	l, _, _, _ := scan.Words("a b c\n\n1\n# x\n{ \"x\\n\"\n;;;;")
	for from, want := range []int{3, 2, 1, 1, 2, 1, 4, 3, 2, 1, 0, 0} {
		if n := scan.Line(l, from); n != want {
			t.Errorf("Line from %d: %d, not %d", from, n, want)
		}
	}
	const far = 1<<63 - 1
	for _, from := range []int{-1, -2, -far - 1, len(l), len(l) + 1, far} {
		if n := scan.Line(l, from); n != 0 {
			t.Errorf("Line from %d: %d", from, n)
		}
	}
	for _, none := range [][]api.Word{nil, {}, l[:0]} {
		for from := -1; from < 3; from++ {
			if n := scan.Line(none, from); n != 0 {
				t.Errorf("Line of none from %d: %d", from, n)
			}
		}
	}
	if n := scan.Line(l[:2], 0); n != 2 { // l has spare room with words of the same line
		t.Errorf("Line of the first two: %d", n)
	}
	if n := scan.Line(make([]api.Word, 3), 1); n != 2 { // of words that no text has
		t.Errorf("Line of zero words: %d", n)
	}
}

// TestLineOfUnsorted (P4.2): words that no text has in that order are asked, too: those that stand in the line of the first one, from its place on.
func TestLineOfUnsorted(t *testing.T) {
	l := []api.Word{name("a", 1, 1), name("b", 2, 1), name("c", 1, 2), name("d", -1, 3)}
	for from, want := range []int{2, 1, 1, 1} {
		if n := scan.Line(l, from); n != want {
			t.Errorf("Line from %d: %d, not %d", from, n, want)
		}
	}
}
