package label_test

import (
	"slices"
	"strings"
	"testing"

	"drayage/api"
	"drayage/label"
)

const (
	letters15 = "abcdefghijklmno"
	letters16 = letters15 + "p"
)

// pairs makes labels of keys and values that alternate.
func pairs(words ...string) (l []api.Label) {
	for i := 0; i < len(words); i += 2 {
		l = append(l, api.Label{Key: words[i], Value: words[i+1]})
	}
	return l
}

// TestExamples holds the chapter's table.
func TestExamples(t *testing.T) {
	terms := []api.Term{{Kind: api.TermIs, Key: "a", Value: "b"}, {Kind: api.TermNot, Key: "c", Value: "d"}, {Kind: api.TermHas, Key: "e"}, {Kind: api.TermLacks, Key: "f"}}
	checkTexts(t, ofTerms, "a=b,c!=d,e,!f", terms, 0, api.OK)
	if !label.Holds(terms, pairs("a", "b", "e", "x")) {
		t.Error("the terms do not hold of (a: b), (e: x)")
	}
	checkTexts(t, ofLabels, "a=", nil, 2, api.ErrTrunc)
	checkTexts(t, ofLabels, "b=1,a=2", nil, 4, api.ErrForm)
	checkTexts(t, ofLabels, "A=1", nil, 0, api.ErrForm)
	checkTexts(t, ofLabels, "a=1,", nil, 4, api.ErrTrunc)
	if !label.Bears(pairs("k", "*"), pairs("k", "v")) || label.Bears(pairs("k", "w"), pairs("k", "v")) {
		t.Error("k=* or k=w of a taint k=v")
	}
	checkTexts(t, ofBorne, "k=*", asTerms(pairs("k", "*")), 0, api.OK)
}

// TestNameAndValue (P3.1): both at each end of their length.
func TestNameAndValue(t *testing.T) {
	for _, x := range []struct {
		text        string
		name, value bool
	}{
		{"", false, false},
		{"a", true, true},
		{"z", true, true},
		{"0", false, true},
		{"9", false, true},
		{"-", false, true},
		{"a-", true, true},
		{"a--9z", true, true},
		{"0a", false, true},
		{"-a", false, true},
		{letters15, true, true},
		{letters16, false, false},
		{"012345678901234", false, true},
		{"0123456789012345", false, false},
		{"a" + strings.Repeat("-", 14), true, true},
		{"a" + strings.Repeat("-", 15), false, false},
		{strings.Repeat("a", 70000), false, false},
		{"*", false, false},
		{"a*", false, false},
		{"A", false, false},
		{"aB", false, false},
		{"a b", false, false},
		{" a", false, false},
		{"a ", false, false},
		{"a_b", false, false},
		{"a.b", false, false},
		{"a=b", false, false},
		{"a,b", false, false},
		{"!a", false, false},
		{"a\n", false, false},
		{"a\x00", false, false},
		{"é", false, false},
		{"aé", false, false},
		{"a\xff", false, false},
		{"\xff", false, false},
		{"a\ufffd", false, false},
		{letters15 + "é", false, false},
		{"ａ", false, false}, // a letter, but a wide one
		{"٣", false, false}, // a digit, but none of 0 to 9
	} {
		if label.Name(x.text) != x.name || label.Value(x.text) != x.value {
			t.Errorf("%q: name %v, value %v", x.text, label.Name(x.text), label.Value(x.text))
		}
	}
}

// TestNameOfEachByte (P3.1): each byte alone, and behind a letter.
func TestNameOfEachByte(t *testing.T) {
	const small, more = "abcdefghijklmnopqrstuvwxyz", "0123456789-"
	for i := range 256 {
		c := string([]byte{byte(i)})
		isSmall, isMore := strings.Contains(small, c), strings.Contains(more, c)
		if label.Name(c) != isSmall || label.Name("a"+c) != (isSmall || isMore) {
			t.Errorf("%q: name %v, behind a letter %v", c, label.Name(c), label.Name("a"+c))
		}
		if label.Value(c) != (isSmall || isMore) || label.Value("-"+c) != (isSmall || isMore) {
			t.Errorf("%q: value %v, behind a hyphen %v", c, label.Value(c), label.Value("-"+c))
		}
	}
}

// TestCheck (P3.1): labels, and what is borne, which differ by * and by keys that stand there twice.
func TestCheck(t *testing.T) {
	for _, x := range []struct {
		l             []api.Label
		labels, borne bool
	}{
		{nil, true, true},
		{[]api.Label{}, true, true},
		{pairs("a", "1"), true, true},
		{pairs(letters15, letters15), true, true},
		{pairs(letters16, "1"), false, false},
		{pairs("a", letters16), false, false},
		{pairs("", "1"), false, false},
		{pairs("a", ""), false, false},
		{pairs("A", "1"), false, false},
		{pairs("1", "1"), false, false},
		{pairs("*", "1"), false, false},
		{pairs("a", "A"), false, false},
		{pairs("a", "*"), false, true},
		{pairs("a", "**"), false, false},
		{pairs("a", "1*"), false, false},
		{pairs("a", "1", "b", "1"), true, true},
		{pairs("b", "1", "a", "1"), false, false},
		{pairs("b", "1", "a", "2"), false, false},
		{pairs("a", "1", "a", "1"), false, false},
		{pairs("a", "1", "a", "2"), false, true},
		{pairs("a", "2", "a", "1"), false, false},
		{pairs("a", "2", "b", "1"), true, true},
		{pairs("a", "*", "a", "-"), false, true},
		{pairs("a", "-", "a", "*"), false, false},
		{pairs("a", "*", "a", "*"), false, false},
		{pairs("a", "*", "a", "1", "b", "*"), false, true},
		{pairs("a", "z", "b", "*", "b", "1"), false, true},
		{pairs("a", "1", "ab", "1", "b", "1"), true, true},
		{pairs("ab", "1", "a", "1"), false, false},
		{pairs("a", "1", "a-", "1", "a0", "1", "aa", "1"), true, true},
		{pairs("a0", "1", "a-", "1"), false, false},
		{pairs("a", "1", "b", "1", "c", "1", "d", "1", "e", "1", "f", "1"), true, true},
		{pairs("a", "1", "b", "1", "c", "1", "d", "1", "e", "1", "f", "1", "g", "1"), false, false},
		{pairs("a", "1", "b", "1", "c", "1", "d", "1", "e", "1", "e", "1"), false, false},
		{pairs("a", "1", "b", "1", "c", "1", "d", "1", "e", "1", "f", ""), false, false},
		{pairs("a", "*", "a", "1", "a", "2", "a", "3", "a", "4", "a", "5"), false, true},
		{pairs("a", "*", "a", "1", "a", "2", "a", "3", "a", "4", "a", "5", "a", "6"), false, false},
	} {
		checkErr(t, "Check", x.l, label.Check(x.l), x.labels)
		checkErr(t, "CheckBears", x.l, label.CheckBears(x.l), x.borne)
	}
}

// checkErr asks for ErrArg just of what may not be.
func checkErr(t *testing.T, call string, l any, e api.Errno, mayBe bool) {
	t.Helper()
	want := api.ErrArg
	if mayBe {
		want = api.OK
	}
	if e != want {
		t.Errorf("%s(%v): %d, not %d", call, l, e, want)
	}
}

// TestCheckTerms (P3.1): each kind with and without a value; the order does not matter.
func TestCheckTerms(t *testing.T) {
	for kind := -1; kind <= 6; kind++ {
		for _, key := range []string{"a", letters15, letters16, "", "1", "A", "!a", "*"} {
			for _, value := range []string{"", "a", "1", letters15, letters16, "A", "*", "a=b"} {
				l := []api.Term{{Kind: kind, Key: key, Value: value}}
				keyIs, valueIs := key == "a" || key == letters15, value == "a" || value == "1" || value == letters15
				mayBe := keyIs && ((kind == 1 || kind == 2) && valueIs || (kind == 3 || kind == 4) && value == "")
				checkErr(t, "CheckTerms", l, label.CheckTerms(l), mayBe)
			}
		}
	}
	has := func(keys ...string) (l []api.Term) {
		for _, k := range keys {
			l = append(l, api.Term{Kind: api.TermHas, Key: k})
		}
		return l
	}
	checkErr(t, "CheckTerms", nil, label.CheckTerms(nil), true)
	for text, mayBe := range map[string]bool{"": false, "a": true, "b a": true, "a a": true, "f e d c b a": true, "a a a a a a": true, "a a a a a a a": false, "a a a a a A": false, "A a": false} {
		l := has(strings.Split(text, " ")...)
		checkErr(t, "CheckTerms", l, label.CheckTerms(l), mayBe)
	}
}

// TestChecksOfLongLists (P3.1): the length alone refuses them.
func TestChecksOfLongLists(t *testing.T) {
	checkErr(t, "Check", "many", label.Check(make([]api.Label, 100000)), false)
	checkErr(t, "CheckBears", "many", label.CheckBears(make([]api.Label, 100000)), false)
	checkErr(t, "CheckTerms", "many", label.CheckTerms(make([]api.Term, 100000)), false)
}

// eachList goes through all lists of at most that many of these.
func eachList[T any](most int, of []T, f func(l []T)) {
	var more func(l []T)
	more = func(l []T) {
		f(l)
		if len(l) == most {
			return
		}
		for _, x := range of {
			more(append(slices.Clone(l), x))
		}
	}
	more(nil)
}
