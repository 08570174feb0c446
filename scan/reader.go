package scan

import (
	"unicode/utf8"

	"drayage/api"
)

// Runes that a text's form hangs on.
const (
	lineEnd        = '\n'
	comment        = '#'
	quote          = '"'
	escape         = '\\'
	escapedLineEnd = 'n'
)

// reader takes a text rune by rune.
type reader struct {
	next      func(r *reader, c rune) api.Errno // what it does with the next rune
	line, col int                               // of the next rune
	words     []api.Word
	word      api.Word // the one that has begun
	text      []byte   // of that one, so far
}

// read takes the next rune, and goes on behind it, if it can stand there.
func (r *reader) read(c rune) api.Errno {
	if e := r.next(r, c); e != api.OK {
		return e
	}
	if c == lineEnd {
		r.line++
		r.col = 0
	}
	r.col++
	return api.OK
}

// begin begins a word at the next rune.
func (r *reader) begin(kind int, next func(r *reader, c rune) api.Errno) {
	r.word = api.Word{Kind: kind, Line: r.line, Col: r.col}
	r.text = r.text[:0]
	r.next = next
}

func (r *reader) add(c rune) {
	r.text = utf8.AppendRune(r.text, c)
}

// end ends the word that has begun.
func (r *reader) end() {
	r.word.Text = string(r.text)
	r.words = append(r.words, r.word)
	r.next = between
}

// between takes a rune where no word has begun.
func between(r *reader, c rune) api.Errno {
	switch {
	case c == lineEnd || isBlank(c):
	case c == comment:
		r.next = inComment
	case c == quote:
		r.begin(api.WordString, inString)
	case isSign(c):
		r.begin(api.WordSign, between)
		r.add(c)
		r.end()
	case isSmall(c):
		r.begin(api.WordName, inName)
		r.add(c)
	case isDigit(c):
		r.begin(api.WordNumber, inNumber)
		r.add(c)
	default:
		return api.ErrForm
	}
	return api.OK
}

func inName(r *reader, c rune) api.Errno {
	return r.goOn(c, isSmall(c) || isDigit(c) || c == '-')
}

func inNumber(r *reader, c rune) api.Errno {
	return r.goOn(c, isSmall(c) || isCapital(c) || isDigit(c) || c == '.' || c == '%')
}

// goOn takes a rune behind a word that has no end of its own: what does not belong to it must be apart from it.
func (r *reader) goOn(c rune, belongs bool) api.Errno {
	if belongs {
		r.add(c)
		return api.OK
	}
	if !isBlank(c) && !isSign(c) && c != comment && c != lineEnd {
		return api.ErrForm
	}
	r.end()
	return between(r, c)
}

func inString(r *reader, c rune) api.Errno {
	switch {
	case c == lineEnd:
		return api.ErrTrunc
	case isControl(c):
		return api.ErrForm
	case c == quote:
		r.end()
	case c == escape:
		r.next = inEscape
	default:
		r.add(c)
	}
	return api.OK
}

// inEscape takes the rune behind a backslash.
func inEscape(r *reader, c rune) api.Errno {
	switch c {
	case lineEnd:
		return api.ErrTrunc
	case quote, escape:
		r.add(c)
	case escapedLineEnd:
		r.add(lineEnd)
	default:
		return api.ErrForm
	}
	r.next = inString
	return api.OK
}

func inComment(r *reader, c rune) api.Errno {
	if c == lineEnd {
		r.next = between
	}
	return api.OK
}

func isBlank(c rune) bool {
	return c == ' ' || c == '\t'
}

func isSign(c rune) bool {
	switch c {
	case '{', '}', ':', ';', '*':
		return true
	}
	return false
}

func isControl(c rune) bool {
	return c < ' '
}

func isSmall(c rune) bool {
	return 'a' <= c && c <= 'z'
}

func isCapital(c rune) bool {
	return 'A' <= c && c <= 'Z'
}

func isDigit(c rune) bool {
	return '0' <= c && c <= '9'
}
