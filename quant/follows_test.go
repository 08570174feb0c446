package quant_test

import (
	"regexp"
	"testing"
	"unicode/utf8"

	"drayage/api"
	"drayage/quant"
)

// The texts that are whole, and the beginnings of such.
var (
	whole     = regexp.MustCompile(`^((?:0|[1-9][0-9]*)(?:\.[0-9]{1,3})?)(m|k|M|G|Ki|Mi|Gi|)$`)
	beginning = regexp.MustCompile(`^(?:|(?:0|[1-9][0-9]*)(?:\.[0-9]{0,3}|(?:\.[0-9]{1,3})?(?:m|k|M|G|K|Ki|Mi|Gi)|))$`)

	wholeShare     = regexp.MustCompile(`^(?:0|[1-9][0-9]*)(?:\.[0-9])?%$`)
	beginningShare = regexp.MustCompile(`^(?:|(?:0|[1-9][0-9]*)(?:\.[0-9]?|(?:\.[0-9])?%|))$`)
)

// eachText goes through all texts of at most that many of these pieces.
func eachText(most int, pieces []string, f func(text string)) {
	var more func(text string, left int)
	more = func(text string, left int) {
		f(text)
		if left == 0 {
			return
		}
		for _, p := range pieces {
			more(text+p, left-1)
		}
	}
	more("", most)
}

// isBeginning asks for UTF-8, too: a byte that is none can't stand anywhere.
func isBeginning(text string, r *regexp.Regexp) bool {
	return utf8.ValidString(text) && r.MatchString(text)
}

// wrongAt is the place and the error that the words ask for of a text that is not whole.
func wrongAt(text string, r *regexp.Regexp) said {
	for i := 0; i < len(text); {
		_, size := utf8.DecodeRuneInString(text[i:])
		if !isBeginning(text[:i+size], r) {
			return said{0, i, api.ErrForm}
		}
		i += size
	}
	return said{0, len(text), api.ErrTrunc}
}

// TestWrongPlaces (P1.1, P1.6): all short texts, held against the words.
func TestWrongPlaces(t *testing.T) {
	pieces := []string{"0", "1", "5", ".", "m", "k", "K", "M", "G", "i", "%", "é", "\xc3", "\ufffd"}
	eachText(5, pieces, func(text string) {
		got := parse(text, true)
		want := said{}
		if m := whole.FindStringSubmatch(text); m != nil {
			want = whatItSays(m[1], m[2], true)
		} else {
			want = wrongAt(text, beginning)
		}
		if got != want {
			t.Errorf("Parse(%q, true): %v, not %v", text, got, want)
		}
	})
}

// TestWrongPlacesOfPlaces (P1.1, P1.6): texts that are longer, but of fewer runes.
func TestWrongPlacesOfPlaces(t *testing.T) {
	eachText(9, []string{"0", "7", ".", "G", "i"}, func(text string) {
		if whole.MatchString(text) {
			return
		}
		if got, want := parse(text, false), wrongAt(text, beginning); got != want {
			t.Errorf("Parse(%q, false): %v, not %v", text, got, want)
		}
	})
}

// TestWrongPlacesOfShares (P1.3, P1.6): likewise of shares.
func TestWrongPlacesOfShares(t *testing.T) {
	eachText(6, []string{"0", "1", "5", ".", "%", "m", "é", "\xff"}, func(text string) {
		got := percent(text)
		if wholeShare.MatchString(text) {
			if got.at != 0 || got.e != api.OK && got.e != api.ErrOver {
				t.Errorf("Percent(%q): %v", text, got)
			}
			return
		}
		if want := wrongAt(text, beginningShare); got != want {
			t.Errorf("Percent(%q): %v, not %v", text, got, want)
		}
	})
}

// TestPrintedIsParsed (P1.5): what was printed is parsed as it was.
func TestPrintedIsParsed(t *testing.T) {
	var l []int
	for n := range 5000 {
		l = append(l, n, 1<<40-n, n<<10, n<<20, 1<<30+n, min(n<<30, 1<<40), n*1000, n*999_999)
	}
	for _, n := range l {
		for _, milli := range []bool{false, true} {
			text, e := quant.Print(n, milli)
			if got := parse(text, milli); e != api.OK || got != (said{n, 0, api.OK}) {
				t.Fatalf("Print(%d, %v): %q, %d; parsed: %v", n, milli, text, e, got)
			}
		}
	}
	for n := range 1001 {
		text, e := quant.PrintPercent(n)
		if got := percent(text); e != api.OK || got != (said{n, 0, api.OK}) {
			t.Fatalf("PrintPercent(%d): %q, %d; parsed: %v", n, text, e, got)
		}
	}
}

// TestParsedIsPrinted (P1.5): what can be parsed says what its print says.
func TestParsedIsPrinted(t *testing.T) {
	eachText(5, []string{"0", "1", "2", "5", ".", "m", "k", "M", "G", "K", "i"}, func(text string) {
		for _, milli := range []bool{false, true} {
			first := parse(text, milli)
			if first.e != api.OK {
				continue
			}
			again, e := quant.Print(first.n, milli)
			if e != api.OK || parse(again, milli) != first {
				t.Errorf("%q, %v: %v, printed %q, %d", text, milli, first, again, e)
			}
		}
	})
	eachText(6, []string{"0", "1", "5", ".", "%"}, func(text string) {
		first := percent(text)
		if first.e != api.OK {
			return
		}
		again, e := quant.PrintPercent(first.n)
		if e != api.OK || percent(again) != first {
			t.Errorf("%q: %v, printed %q, %d", text, first, again, e)
		}
	})
}
