package label

import (
	"strings"

	"drayage/api"
)

// reader is a text, and how far it was read. Where reading stops, the text is wrong.
type reader struct {
	text string
	at   int
}

// Labels reads labels. Beside an error stands the byte where the text is wrong.
func Labels(text string) (l []api.Label, at int, e api.Errno) {
	return readList(text, func(r *reader) (api.Label, bool) { return r.label(r.value) }, keysRise)
}

// Borne reads what is borne. Beside an error stands the byte where the text is wrong.
func Borne(text string) (l []api.Label, at int, e api.Errno) {
	return readList(text, func(r *reader) (api.Label, bool) { return r.label(r.valueOrAny) }, pairsRise)
}

// Terms reads terms. Beside an error stands the byte where the text is wrong.
func Terms(text string) (l []api.Term, at int, e api.Errno) {
	return readList(text, func(r *reader) (api.Term, bool) { return r.term() }, inAnyOrder)
}

// readList reads parts, with a comma between them. A part is read to its end ahead of asking whether it may stand there: what is wrong within it is told first.
func readList[T any](text string, read func(r *reader) (T, bool), rises func(a, b T) bool) (l []T, at int, e api.Errno) {
	if text == "" { // the text of no parts
		return nil, 0, api.OK
	}
	r := &reader{text: text}
	for {
		from := r.at
		x, is := read(r)
		over := r.at == len(text)
		if !is && over {
			return nil, r.at, api.ErrTrunc
		}
		if !is || !over && !r.sign(",") {
			return nil, r.at, api.ErrForm
		}
		if len(l) == api.MaxList {
			return nil, from, api.ErrLimit
		}
		if len(l) > 0 && !rises(l[len(l)-1], x) {
			return nil, from, api.ErrForm
		}
		l = append(l, x)
		if over {
			return l, 0, api.OK
		}
	}
}

// label reads a key, =, and what value reads.
func (r *reader) label(value func() (string, bool)) (l api.Label, is bool) {
	l.Key, is = r.name()
	if !is || !r.sign("=") {
		return api.Label{}, false
	}
	l.Value, is = value()
	return l, is
}

// term reads one of any kind.
func (r *reader) term() (t api.Term, is bool) {
	if r.sign("!") {
		t.Kind = api.TermLacks
		t.Key, is = r.name()
		return t, is
	}
	t.Key, is = r.name()
	if !is {
		return api.Term{}, false
	}
	t.Kind, is = r.relation()
	if is && t.Kind != api.TermHas {
		t.Value, is = r.value()
	}
	return t, is
}

// relation reads what stands behind a term's key, nothing among it: which kind of term that makes.
func (r *reader) relation() (kind int, is bool) {
	if r.sign("=") {
		return api.TermIs, true
	}
	if r.sign("!") { // not != at once: what is wrong behind the ! is told there
		return api.TermNot, r.sign("=")
	}
	return api.TermHas, true
}

func (r *reader) name() (string, bool) {
	return r.take(nameLength(r.text[r.at:]))
}

func (r *reader) value() (string, bool) {
	return r.take(valueLength(r.text[r.at:]))
}

func (r *reader) valueOrAny() (string, bool) {
	if r.sign(anyValue) {
		return anyValue, true
	}
	return r.value()
}

// take goes on by so many bytes; none are no word. The word is copied: the text is not kept.
func (r *reader) take(n int) (word string, is bool) {
	word = strings.Clone(r.text[r.at : r.at+n])
	r.at += n
	return word, n > 0
}

// sign goes on behind a sign, if it stands there.
func (r *reader) sign(s string) bool {
	if !strings.HasPrefix(r.text[r.at:], s) {
		return false
	}
	r.at += len(s)
	return true
}

// Print writes labels, or what is borne.
func Print(l []api.Label) string {
	return printList(l, func(x api.Label) string { return x.Key + "=" + x.Value })
}

// PrintTerms writes terms. One of no kind is written as what it holds of: TermLacks.
func PrintTerms(l []api.Term) string {
	return printList(l, func(t api.Term) string {
		switch t.Kind {
		case api.TermIs:
			return t.Key + "=" + t.Value
		case api.TermNot:
			return t.Key + "!=" + t.Value
		case api.TermHas:
			return t.Key
		}
		return "!" + t.Key
	})
}

// printList writes parts, with a comma between them.
func printList[T any](l []T, part func(x T) string) string {
	var b strings.Builder
	for i, x := range l {
		if i > 0 {
			b.WriteByte(',')
		}
		b.WriteString(part(x))
	}
	return b.String()
}
