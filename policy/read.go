package policy

import (
	"strconv"

	"drayage/api"
	"drayage/label"
	"drayage/quant"
	"drayage/scan"
)

// maxDigits is how many a number has at most.
const maxDigits = 9

// Parse reads a policy. Beside an error stand the line and the column where the text is wrong, or 0, 0, if only the policy is.
func Parse(text string) (g api.Goal, line, col int, e api.Errno) {
	words, line, col, e := scan.Words(text)
	if e != api.OK {
		return api.Goal{}, line, col, e
	}
	r := &reader{rest: words}
	if !r.readLines() {
		return api.Goal{}, r.wrong.line, r.wrong.col, r.wrong.e
	}
	if e := Check(r.goal); e != api.OK {
		return api.Goal{}, 0, 0, e
	}
	return r.goal, 0, 0, api.OK
}

// fault is what is wrong with a text, and where.
type fault struct {
	line, col int
	e         api.Errno
}

// reader is a text's words, and the policy that has been read of them. What it reads says whether that could be read; if not, it is told by wrong.
type reader struct {
	line  []api.Word // the line that is read
	at    int        // the place in it of the next word
	rest  []api.Word // the lines behind it
	goal  api.Goal
	wrong fault
}

// fail tells what is wrong, at a word.
func (r *reader) fail(w api.Word, e api.Errno) bool {
	r.wrong = fault{w.Line, w.Col, e}
	return false
}

// readLines goes through the lines that there may be, so that what is left behind them is one that does not come in the order, or is none.
func (r *reader) readLines() bool {
	readers := [len(keys)]func() bool{r.low, r.high, r.on, r.drain, r.moves, r.tries, r.rollback}
	for i, key := range keys {
		if r.begins(key) && !(readers[i]() && r.endLine()) {
			return false
		}
	}
	if len(r.rest) > 0 {
		return r.fail(r.rest[0], api.ErrForm)
	}
	return true
}

// begins tells whether the next line has this first word, and goes on behind that, if it has.
func (r *reader) begins(key string) bool {
	if len(r.rest) == 0 || r.rest[0].Kind != api.WordName || r.rest[0].Text != key {
		return false
	}
	n := scan.Line(r.rest, 0)
	r.line, r.rest = r.rest[:n], r.rest[n:]
	r.at = 1
	return true
}

func (r *reader) isAtEnd() bool {
	return r.at == len(r.line)
}

func (r *reader) endLine() bool {
	return r.isAtEnd() || r.fail(r.line[r.at], api.ErrForm)
}

// take takes the line's next word, which must be of a kind.
func (r *reader) take(kind int) (w api.Word, is bool) {
	if r.isAtEnd() {
		return api.Word{}, r.fail(r.line[r.at-1], api.ErrTrunc)
	}
	w = r.line[r.at]
	if w.Kind != kind {
		return api.Word{}, r.fail(w, api.ErrForm)
	}
	r.at++
	return w, true
}

func (r *reader) low() bool      { return r.shares(&r.goal.Low) }
func (r *reader) high() bool     { return r.shares(&r.goal.High) }
func (r *reader) moves() bool    { return r.number(&r.goal.MaxMoves) }
func (r *reader) tries() bool    { return r.number(&r.goal.Tries) }
func (r *reader) rollback() bool { r.goal.Rollback = true; return true }

func (r *reader) on() bool {
	bitOf := bits()
	for {
		w, is := r.take(api.WordName)
		if !is {
			return false
		}
		bit := bitOf[w.Text]
		if bit <= r.goal.On { // none, or none behind those ahead: bits rise
			return r.fail(w, api.ErrForm)
		}
		r.goal.On |= bit
		if r.isAtEnd() {
			return true
		}
	}
}

func (r *reader) drain() bool {
	for {
		w, is := r.take(api.WordName)
		if !is {
			return false
		}
		if !label.Name(w.Text) { // scan's names may be longer
			return r.fail(w, api.ErrForm)
		}
		r.goal.Drain = append(r.goal.Drain, w.Text)
		if r.isAtEnd() {
			return true
		}
	}
}

func (r *reader) shares(l *[2]int) bool {
	for i := range l {
		w, is := r.take(api.WordNumber)
		if !is {
			return false
		}
		n, _, e := quant.Percent(w.Text)
		if e != api.OK {
			return r.fail(w, e)
		}
		l[i] = n
	}
	return true
}

func (r *reader) number(into *int) bool {
	w, is := r.take(api.WordNumber)
	if !is {
		return false
	}
	n, err := strconv.Atoi(w.Text)
	// One with a 0 ahead is written otherwise.
	if err != nil || len(w.Text) > maxDigits || strconv.Itoa(n) != w.Text {
		return r.fail(w, api.ErrForm)
	}
	*into = n
	return true
}
