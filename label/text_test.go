package label_test

import (
	"regexp"
	"slices"
	"strings"
	"testing"
	"unicode/utf8"
	"unsafe"

	"drayage/api"
	"drayage/label"
)

// kind is one of the three kinds of texts: how it is read, checked and printed (labels as terms of no kind, so that all three are alike), and, by the words, which parts are whole, what such ones begin with, and which may stand behind which.
type kind struct {
	name             string
	read             func(text string) ([]api.Term, int, api.Errno)
	check            func(l []api.Term) api.Errno
	print            func(l []api.Term) string
	whole, beginning *regexp.Regexp
	rises            func(a, b api.Term) bool
}

const (
	aName  = `[a-z][a-z0-9-]{0,14}`
	aValue = `[a-z0-9-]{1,15}`
)

func exactly(s string) *regexp.Regexp {
	return regexp.MustCompile(`^(?:` + s + `)$`)
}

var (
	ofLabels = kind{
		"Labels",
		func(text string) ([]api.Term, int, api.Errno) {
			l, at, e := label.Labels(text)
			return asTerms(l), at, e
		},
		func(l []api.Term) api.Errno { return label.Check(asLabels(l)) },
		func(l []api.Term) string { return label.Print(asLabels(l)) },
		exactly(aName + `=` + aValue),
		exactly(`|` + aName + `|` + aName + `=(` + aValue + `)?`),
		func(a, b api.Term) bool { return a.Key < b.Key },
	}
	ofBorne = kind{
		"Borne",
		func(text string) ([]api.Term, int, api.Errno) {
			l, at, e := label.Borne(text)
			return asTerms(l), at, e
		},
		func(l []api.Term) api.Errno { return label.CheckBears(asLabels(l)) },
		func(l []api.Term) string { return label.Print(asLabels(l)) },
		exactly(aName + `=(` + aValue + `|\*)`),
		exactly(`|` + aName + `|` + aName + `=(` + aValue + `|\*)?`),
		func(a, b api.Term) bool {
			return slices.Compare([]string{a.Key, a.Value}, []string{b.Key, b.Value}) < 0
		},
	}
	ofTerms = kind{
		"Terms",
		label.Terms,
		label.CheckTerms,
		label.PrintTerms,
		exactly(aName + `!?=` + aValue + `|!?` + aName),
		exactly(`|!|!?` + aName + `|` + aName + `!?=(` + aValue + `)?|` + aName + `!`),
		func(a, b api.Term) bool { return true },
	}
	kinds = []kind{ofLabels, ofBorne, ofTerms}
)

func asTerms(l []api.Label) (terms []api.Term) {
	for _, x := range l {
		terms = append(terms, api.Term{Key: x.Key, Value: x.Value})
	}
	return terms
}

func asLabels(l []api.Term) (labels []api.Label) {
	for _, x := range l {
		labels = append(labels, api.Label{Key: x.Key, Value: x.Value})
	}
	return labels
}

func checkTexts(t *testing.T, k kind, text string, want []api.Term, at int, e api.Errno) {
	t.Helper()
	if l, gotAt, gotE := k.read(text); !slices.Equal(l, want) || gotAt != at || gotE != e {
		t.Errorf("%s of %q: %v, %d, %d, not %v, %d, %d", k.name, text, l, gotAt, gotE, want, at, e)
	}
}

// cut is what a whole part says.
func (k kind) cut(part string) api.Term {
	key, value, two := strings.Cut(part, "=")
	if k.name != "Terms" {
		return api.Term{Key: key, Value: value}
	}
	bare := strings.Trim(key, "!")
	switch {
	case strings.HasPrefix(key, "!"):
		return api.Term{Kind: api.TermLacks, Key: bare}
	case !two:
		return api.Term{Kind: api.TermHas, Key: bare}
	case bare != key:
		return api.Term{Kind: api.TermNot, Key: bare, Value: value}
	}
	return api.Term{Kind: api.TermIs, Key: bare, Value: value}
}

// want is what the words ask for of a text.
func (k kind) want(text string) (l []api.Term, at int, e api.Errno) {
	if text == "" {
		return nil, 0, api.OK
	}
	from := 0
	for _, part := range strings.SplitAfter(text, ",") {
		bare := strings.TrimSuffix(part, ",")
		if !k.whole.MatchString(bare) {
			at, e := k.wrongAt(part)
			return nil, from + at, e
		}
		x := k.cut(bare)
		if len(l) == 6 {
			return nil, from, api.ErrLimit
		}
		if len(l) > 0 && !k.rises(l[len(l)-1], x) {
			return nil, from, api.ErrForm
		}
		l = append(l, x)
		from += len(part)
	}
	return l, 0, api.OK
}

// wrongAt is the first rune of a part that no part begins with, or its end.
func (k kind) wrongAt(part string) (int, api.Errno) {
	for i := 0; i < len(part); {
		_, size := utf8.DecodeRuneInString(part[i:])
		if !k.beginning.MatchString(part[:i+size]) {
			return i, api.ErrForm
		}
		i += size
	}
	return len(part), api.ErrTrunc
}

// eachText goes through all texts of at most that many of these pieces.
func eachText(most int, pieces []string, f func(text string)) {
	eachList(most, pieces, func(l []string) { f(strings.Join(l, "")) })
}

func checkAgainstWords(t *testing.T, text string) {
	t.Helper()
	for _, k := range kinds {
		l, at, e := k.want(text)
		checkTexts(t, k, text, l, at, e)
		if e == api.OK && (k.print(l) != text || k.check(l) != api.OK) { // P3.5: it has just that text
			t.Errorf("%s of %q: %v, whose text is %q, check %d", k.name, text, l, k.print(l), k.check(l))
		}
	}
}

// TestShortTexts (P3.3, P3.5): all texts of a few runes, held against the words.
func TestShortTexts(t *testing.T) {
	eachText(4, []string{"a", "b", "z", "0", "-", "=", "!", "*", ",", "A", " ", "é", "\xc3", "\ufffd", "\x00"}, func(text string) {
		checkAgainstWords(t, text)
	})
}

// TestLongerTexts (P3.3, P3.5): texts that are longer, but of fewer runes.
func TestLongerTexts(t *testing.T) {
	eachText(6, []string{"a", "b", "=", "!", "*", ",", "1"}, func(text string) {
		checkAgainstWords(t, text)
	})
}

// TestTextsOfParts (P3.3, P3.5): rows of parts that can be read, and of pieces that can't, in and out of order.
func TestTextsOfParts(t *testing.T) {
	eachText(4, []string{"a=1", "a=*", "a=2", "b=1", "b!=1", "!b", "c", ",", ",,", "d=", "!", letters15, letters16}, func(text string) {
		checkAgainstWords(t, text)
	})
}

// TestTextsAtTheLimit (P3.3): behind five parts: a sixth, a seventh, an eighth one, and what is none.
func TestTextsAtTheLimit(t *testing.T) {
	pieces := []string{",", "f=1", "g=1", "a=1", "e=*", "!g", "h", "=", "é"}
	eachText(5, pieces, func(text string) {
		checkAgainstWords(t, "a=1,b=1,c=1,d=1,e=1"+text)
	})
}

// TestLimit (P3.3): the same by hand.
func TestLimit(t *testing.T) {
	six := "a=1,b=1,c=1,d=1,e=1,f=1"
	for _, k := range kinds {
		if l, at, e := k.read(six); len(l) != 6 || at != 0 || e != api.OK {
			t.Errorf("%s of six: %v, %d, %d", k.name, l, at, e)
		}
		for text, want := range map[string]struct {
			at int
			e  api.Errno
		}{
			",g=1":     {24, api.ErrLimit},
			",a=1":     {24, api.ErrLimit}, // its Key does not rise
			",f=1":     {24, api.ErrLimit},
			",g=1,h=1": {24, api.ErrLimit},
			",g=1,":    {24, api.ErrLimit},
			",g=1,é":   {24, api.ErrLimit},
			",":        {24, api.ErrTrunc},
			",g=":      {26, api.ErrTrunc},
			",a=":      {26, api.ErrTrunc},
			",,":       {24, api.ErrForm},
			",g=1é":    {27, api.ErrForm},
			",g=,":     {26, api.ErrForm},
			",G=1":     {24, api.ErrForm},
			"=":        {23, api.ErrForm},
		} {
			checkTexts(t, k, six+text, nil, want.at, want.e)
		}
	}
	checkTexts(t, ofTerms, "a,a,a,a,a,a,!a", nil, 12, api.ErrLimit)
	checkTexts(t, ofTerms, "a,a,a,a,a,a,!", nil, 13, api.ErrTrunc)
	checkTexts(t, ofLabels, "a=1,b=1,c=1,d=1,e=1,a=1,g=1", nil, 20, api.ErrForm) // the sixth one is wrong ahead of the seventh one
}

// TestOrder (P3.3): a part that may be, but not there, is wrong at its first byte; one that may not be is wrong within.
func TestOrder(t *testing.T) {
	for text, want := range map[string]struct {
		at int
		e  api.Errno
	}{
		"b=1,a=2":     {4, api.ErrForm},
		"b=1,b=1":     {4, api.ErrForm},
		"b=1,a=2,c=3": {4, api.ErrForm},
		"b=1,a=2,":    {4, api.ErrForm},
		"b=1,a=2,é":   {4, api.ErrForm},
		"b=1,a=2é":    {7, api.ErrForm},
		"b=1,a=é":     {6, api.ErrForm},
		"b=1,a=":      {6, api.ErrTrunc},
		"b=1,a":       {5, api.ErrTrunc},
	} {
		checkTexts(t, ofLabels, text, nil, want.at, want.e)
		checkTexts(t, ofBorne, text, nil, want.at, want.e)
	}
	checkTexts(t, ofLabels, "a=1,a=2", nil, 4, api.ErrForm)
	checkTexts(t, ofBorne, "a=1,a=2", asTerms(pairs("a", "1", "a", "2")), 0, api.OK)
	checkTexts(t, ofBorne, "a=2,a=1", nil, 4, api.ErrForm)
	checkTexts(t, ofBorne, "a=*,a=-", asTerms(pairs("a", "*", "a", "-")), 0, api.OK)
	checkTexts(t, ofBorne, "a=-,a=*", nil, 4, api.ErrForm)
	checkTexts(t, ofBorne, "a=z,b=*", asTerms(pairs("a", "z", "b", "*")), 0, api.OK)
	checkTexts(t, ofTerms, "b=1,a=1,a=1", []api.Term{{Kind: 1, Key: "b", Value: "1"}, {Kind: 1, Key: "a", Value: "1"}, {Kind: 1, Key: "a", Value: "1"}}, 0, api.OK)
}

// TestLengths (P3.3): what makes a name or a value too long is wrong there.
func TestLengths(t *testing.T) {
	for _, k := range kinds {
		checkTexts(t, k, letters15+"="+letters15, []api.Term{k.cut(letters15 + "=" + letters15)}, 0, api.OK)
		checkTexts(t, k, letters16+"=1", nil, 15, api.ErrForm)
		checkTexts(t, k, letters16, nil, 15, api.ErrForm)
		checkTexts(t, k, "a="+letters16, nil, 17, api.ErrForm)
		checkTexts(t, k, "a="+letters16+",b=1", nil, 17, api.ErrForm)
		checkTexts(t, k, "a=1,"+letters16, nil, 19, api.ErrForm)
		checkTexts(t, k, strings.Repeat("a", 70000), nil, 15, api.ErrForm)
		checkTexts(t, k, strings.Repeat(",", 70000), nil, 0, api.ErrForm)
	}
	checkTexts(t, ofLabels, letters15, nil, 15, api.ErrTrunc)
	checkTexts(t, ofTerms, letters15, []api.Term{{Kind: 3, Key: letters15}}, 0, api.OK)
	checkTexts(t, ofTerms, "!"+letters15, []api.Term{{Kind: 4, Key: letters15}}, 0, api.OK)
	checkTexts(t, ofTerms, "!"+letters16, nil, 16, api.ErrForm)
	checkTexts(t, ofTerms, letters15+"!="+letters15, []api.Term{{Kind: 2, Key: letters15, Value: letters15}}, 0, api.OK)
	checkTexts(t, ofTerms, "a!="+letters16, nil, 18, api.ErrForm)
}

// TestStars (P3.3): * is a value of its own, and only where that is said.
func TestStars(t *testing.T) {
	checkTexts(t, ofBorne, "a=*b", nil, 3, api.ErrForm)
	checkTexts(t, ofBorne, "a=b*", nil, 3, api.ErrForm)
	checkTexts(t, ofBorne, "a=**", nil, 3, api.ErrForm)
	checkTexts(t, ofBorne, "*=a", nil, 0, api.ErrForm)
	checkTexts(t, ofBorne, "a*", nil, 1, api.ErrForm)
	checkTexts(t, ofLabels, "a=*", nil, 2, api.ErrForm)
	checkTexts(t, ofTerms, "a=*", nil, 2, api.ErrForm)
	checkTexts(t, ofTerms, "a!=*", nil, 3, api.ErrForm)
}

// TestSigns (P3.3): of terms, what stands around the !.
func TestSigns(t *testing.T) {
	for text, want := range map[string]struct {
		at int
		e  api.Errno
	}{
		"!":       {1, api.ErrTrunc},
		"a!":      {2, api.ErrTrunc},
		"a!=":     {3, api.ErrTrunc},
		"a,":      {2, api.ErrTrunc},
		"!a,":     {3, api.ErrTrunc},
		"a=1,b!x": {6, api.ErrForm},
		"!!a":     {1, api.ErrForm},
		"!=a":     {1, api.ErrForm},
		"!,a":     {1, api.ErrForm},
		"!a=1":    {2, api.ErrForm},
		"!a!=1":   {2, api.ErrForm},
		"a!,b":    {2, api.ErrForm},
		"a!!=1":   {2, api.ErrForm},
		"a==1":    {2, api.ErrForm},
		"a=!1":    {2, api.ErrForm},
		"a=1=2":   {3, api.ErrForm},
		"a=1!=2":  {3, api.ErrForm},
		"=1":      {0, api.ErrForm},
		",a":      {0, api.ErrForm},
		"a, b":    {2, api.ErrForm},
		"1=a":     {0, api.ErrForm},
	} {
		checkTexts(t, ofTerms, text, nil, want.at, want.e)
	}
}

// TestPrint (P3.3): the text, also of what may not be.
func TestPrint(t *testing.T) {
	for want, l := range map[string][]api.Label{
		"":                nil,
		"a=1":             pairs("a", "1"),
		"a=1,b=x-2,c=*":   pairs("a", "1", "b", "x-2", "c", "*"),
		"b=,a=é,=":        pairs("b", "", "a", "é", "", ""),
		"a=1,b=1,c=1,d=1": pairs("a", "1", "b", "1", "c", "1", "d", "1"),
	} {
		if s := label.Print(l); s != want {
			t.Errorf("Print(%v): %q", l, s)
		}
	}
	for want, l := range map[string][]api.Term{
		"":              nil,
		"a":             {{Kind: 3, Key: "a"}},
		"a=b,c!=d,e,!f": {{Kind: 1, Key: "a", Value: "b"}, {Kind: 2, Key: "c", Value: "d"}, {Kind: 3, Key: "e"}, {Kind: 4, Key: "f"}},
		"!a,!b":         {{Kind: 0, Key: "a", Value: "1"}, {Kind: 5, Key: "b"}}, // as they hold
	} {
		if s := label.PrintTerms(l); s != want {
			t.Errorf("PrintTerms(%v): %q", l, s)
		}
	}
}

// TestPrintedIsRead (P3.5): all short lists of some labels, or terms, as far as they may be.
func TestPrintedIsRead(t *testing.T) {
	for _, k := range kinds {
		some := []api.Term{{Key: "a", Value: "1"}, {Key: "a", Value: "*"}, {Key: "a-1", Value: "-"}, {Key: letters15, Value: letters15}, {Key: "z", Value: "0"}}
		if k.name == "Terms" {
			some = someTerms()
		}
		count := 0
		eachList(4, some, func(l []api.Term) {
			if k.check(l) != api.OK {
				return
			}
			count++
			checkTexts(t, k, k.print(l), l, 0, api.OK)
		})
		if count < 16 {
			t.Errorf("%s: only %d lists may be", k.name, count)
		}
	}
}

// TestNewMemory (P3.4): an answer that is written to changes no later one, and texts are answered in memory of their own.
func TestNewMemory(t *testing.T) {
	for _, k := range kinds {
		text := "a=one,b=two"
		l, _, _ := k.read(text)
		if len(l) != 2 {
			t.Fatalf("%s of %q: %v", k.name, text, l)
		}
		checkApart(t, text, l[0].Key, l[0].Value, l[1].Key, l[1].Value)
		want := slices.Clone(l)
		clear(l)
		checkTexts(t, k, text, want, 0, api.OK)
	}
	had := pairs("a", "one")
	v, _ := label.Get(had, "a")
	checkApart(t, had[0].Value, v)
	checkApart(t, had[0].Key, label.PrintTerms([]api.Term{{Kind: api.TermHas, Key: had[0].Key}}))
}

// checkApart asks that none of these has its bytes within the text.
func checkApart(t *testing.T, text string, parts ...string) {
	t.Helper()
	from := uintptr(unsafe.Pointer(unsafe.StringData(text)))
	for _, p := range parts {
		at := uintptr(unsafe.Pointer(unsafe.StringData(p)))
		if from <= at && at < from+uintptr(len(text)) {
			t.Errorf("%q is a piece of %q", p, text)
		}
	}
}
