package scan_test

import (
	"regexp"
	"slices"
	"strings"
	"testing"
	"unicode/utf8"

	"drayage/api"
	"drayage/scan"
)

// What the chapter says of a line, as expressions: whole words that are apart from what is behind them, and what a line may end with.
const (
	aName    = `[a-z][a-z0-9-]*`
	aNumber  = `[0-9][a-zA-Z0-9.%]*`
	inside   = `(?:[^"\\\x00-\x1f]|\\["\\n])*`
	aString  = `"` + inside + `"`
	anApart  = `[ \t{}:;*]`
	words    = `(?:` + anApart + `|` + aString + `|(?:` + aName + `|` + aNumber + `)` + anApart + `)*`
	aBare    = `(?:` + aName + `|` + aNumber + `)?`
	aComment = `(?:#[^\n]*)?`
)

var (
	wholeLine = regexp.MustCompile(`^` + words + aBare + aComment + `$`)
	beginning = regexp.MustCompile(`^` + words + `(?:` + aBare + aComment + `|"` + inside + `\\?)$`)
	oneWord   = regexp.MustCompile(`#[^\n]*|` + aString + `|` + aName + `|` + aNumber + `|[{}:;*]`)
	escaped   = strings.NewReplacer(`\"`, `"`, `\\`, `\`, `\n`, "\n")
)

// answer is what Words answers.
type answer struct {
	l         []api.Word
	line, col int
	e         api.Errno
}

// want is what the chapter asks for of a text.
func want(text string) (a answer) {
	for i, line := range strings.Split(text, "\n") {
		if col := wrongCol(line); col > 0 {
			return answer{line: i + 1, col: col, e: api.ErrForm}
		}
		if !wholeLine.MatchString(line) {
			return answer{line: i + 1, col: utf8.RuneCountInString(line) + 1, e: api.ErrTrunc}
		}
		a.l = append(a.l, wordsOf(line, i+1)...)
	}
	return a
}

// wrongCol is the column of the first rune of a line that no line goes on with; 0, if there is none.
func wrongCol(line string) int {
	col := 0
	for i := 0; i < len(line); {
		c, size := utf8.DecodeRuneInString(line[i:])
		i, col = i+size, col+1
		if c == utf8.RuneError && size == 1 || !beginning.MatchString(line[:i]) {
			return col
		}
	}
	return 0
}

func wordsOf(text string, line int) (l []api.Word) {
	for _, at := range oneWord.FindAllStringIndex(text, -1) {
		w := text[at[0]:at[1]]
		col := utf8.RuneCountInString(text[:at[0]]) + 1
		switch {
		case w[0] == '#':
		case w[0] == '"':
			l = append(l, str(escaped.Replace(w[1:len(w)-1]), line, col))
		case 'a' <= w[0] && w[0] <= 'z' && w[0] != '{':
			l = append(l, name(w, line, col))
		case '0' <= w[0] && w[0] <= '9':
			l = append(l, number(w, line, col))
		default:
			l = append(l, sign(w, line, col))
		}
	}
	return l
}

// eachText goes through all texts of at most that many of these pieces.
func eachText(most int, pieces []string, f func(text string)) {
	var more func(text string, left int)
	more = func(text string, left int) {
		f(text)
		if left == 0 {
			return
		}
		for _, p := range pieces {
			more(text+p, left-1)
		}
	}
	more("", most)
}

func checkAgainstWords(t *testing.T, text string) {
	t.Helper()
	a := want(text)
	l, line, col, e := scan.Words(text)
	if !slices.Equal(l, a.l) || line != a.line || col != a.col || e != a.e {
		t.Errorf("%q: %v, not %v", text, answer{l, line, col, e}, a)
	}
}

// TestShortTexts (P4.1): all texts of a few runes, held against the chapter's words.
func TestShortTexts(t *testing.T) {
	eachText(4, []string{"a", "n", "0", "-", "A", ".", "%", "\"", "\\", "#", ";", "{", " ", "\t", "\n", "=", "é", "\xc3", "\ufffd", "\x00"}, func(text string) {
		checkAgainstWords(t, text)
	})
}

// TestLongerTexts (P4.1): texts that are longer, but of fewer runes.
func TestLongerTexts(t *testing.T) {
	eachText(6, []string{"a", "0", "\"", "\\", "#", " ", "\n"}, func(text string) {
		checkAgainstWords(t, text)
	})
}

// TestTextsOfWords (P4.1): rows of whole words, and of what is none.
func TestTextsOfWords(t *testing.T) {
	eachText(4, []string{"pod", "x-1", "1.5k", "9%", "\"a b\"", "\"\\n\\\"\"", "\"é", "# a\"", "*", ":", " ", "\t ", "\n", "A", "\x80"}, func(text string) {
		checkAgainstWords(t, text)
	})
}

// bare are words without their places' columns.
func bare(l []api.Word) []api.Word {
	l = slices.Clone(l)
	for i := range l {
		l[i].Col = 0
	}
	return l
}

// TestBlanksAndComments (P4.4): blanks ahead of and behind words, and what stands behind a #, change nothing but columns.
func TestBlanksAndComments(t *testing.T) {
	for _, lines := range [][][]string{
		{{"node", "a", "\"x y\"", ";"}},
		{{"a"}, {}, {"1.5", "*", "\"\""}},
		{{}, {"{", "\"#\"", "b-2", "}"}, {"9"}},
	} {
		plain := join(lines, " ", "", "\n")
		l, _, _, e := scan.Words(plain)
		if e != api.OK || len(l) == 0 {
			t.Fatalf("%q: error %d", plain, e)
		}
		for _, blank := range []string{" ", "\t", "  ", " \t\t "} {
			for _, tail := range []string{"", " ", "#", " # x", "\t#\"", "#\x00\\\"é界", "# \"a\" 1 {"} {
				for _, end := range []string{"\n", " \n\t"} {
					text := join(lines, blank, tail, end)
					got, _, _, e := scan.Words(text)
					if e != api.OK || !slices.Equal(bare(got), bare(l)) {
						t.Errorf("%q: %v, error %d, not the words of %q", text, got, e, plain)
					}
				}
			}
		}
	}
}

// join is a text of lines of words, with these between words, behind lines, and at their ends.
func join(lines [][]string, blank, tail, end string) (text string) {
	for _, l := range lines {
		text += strings.Join(l, blank) + tail + end
	}
	return text
}
