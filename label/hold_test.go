package label_test

import (
	"slices"
	"testing"

	"drayage/api"
	"drayage/label"
)

// TestGet (P3.2): the first one of a key; labels that may not be are asked, too.
func TestGet(t *testing.T) {
	l := pairs("a", "1", "b", "2", "b", "3", "c", "", "", "x")
	for _, x := range []struct {
		key, value string
		is         bool
	}{
		{"a", "1", true},
		{"b", "2", true},
		{"c", "", true},
		{"", "x", true},
		{"d", "", false},
		{"A", "", false},
		{"1", "", false},
	} {
		if v, is := label.Get(l, x.key); v != x.value || is != x.is {
			t.Errorf("Get of %q: %q, %v", x.key, v, is)
		}
	}
	for _, none := range [][]api.Label{nil, {}} {
		if v, is := label.Get(none, ""); v != "" || is {
			t.Errorf("Get of none: %q, %v", v, is)
		}
	}
}

// TestHolds (P3.2): each kind of term, of labels that have the key and the value, the key, or neither.
func TestHolds(t *testing.T) {
	for _, x := range []struct {
		l                  []api.Label
		is, not, has, lack bool
	}{
		{nil, false, true, false, true},
		{pairs("k", "v"), true, false, true, false},
		{pairs("k", "w"), false, true, true, false},
		{pairs("k", ""), false, true, true, false},
		{pairs("v", "k"), false, true, false, true},
		{pairs("j", "v"), false, true, false, true},
		{pairs("j", "v", "k", "w"), false, true, true, false},
		{pairs("a", "b", "k", "v", "z", "v"), true, false, true, false},
		{pairs("k", "*"), false, true, true, false},
		{pairs("k", "w", "k", "v"), true, false, true, false}, // such labels may not be
	} {
		for kind, want := range map[int]bool{api.TermIs: x.is, api.TermNot: x.not, api.TermHas: x.has, api.TermLacks: x.lack, 0: x.lack, -1: x.lack, 5: x.lack} {
			terms := []api.Term{{Kind: kind, Key: "k", Value: "v"}}
			if label.Holds(terms, x.l) != want {
				t.Errorf("%v of %v: %v", terms, x.l, !want)
			}
		}
	}
}

// TestHoldsAll (P3.2): no terms hold of all; one that does not hold is enough, wherever it stands.
func TestHoldsAll(t *testing.T) {
	l := pairs("a", "1", "b", "2")
	yes, no := api.Term{Kind: api.TermIs, Key: "a", Value: "1"}, api.Term{Kind: api.TermLacks, Key: "b"}
	if !label.Holds(nil, nil) || !label.Holds([]api.Term{}, l) {
		t.Error("no terms do not hold")
	}
	eachList(4, []api.Term{yes, no}, func(terms []api.Term) {
		if label.Holds(terms, l) == slices.Contains(terms, no) {
			t.Errorf("%v: %v", terms, label.Holds(terms, l))
		}
	})
}

// TestBears (P3.2): by key and value, by *, each taint.
func TestBears(t *testing.T) {
	for _, x := range []struct {
		bears, taints []api.Label
		want          bool
	}{
		{nil, nil, true},
		{pairs("k", "v"), nil, true},
		{nil, pairs("k", "v"), false},
		{pairs("k", "v"), pairs("k", "v"), true},
		{pairs("k", "w"), pairs("k", "v"), false},
		{pairs("k", "*"), pairs("k", "v"), true},
		{pairs("j", "*"), pairs("k", "v"), false},
		{pairs("j", "v"), pairs("k", "v"), false},
		{pairs("*", "v"), pairs("k", "v"), false},
		{pairs("k", "w", "k", "v"), pairs("k", "v"), true},
		{pairs("k", "v", "k", "w"), pairs("k", "v"), true},
		{pairs("k", "u", "k", "w"), pairs("k", "v"), false},
		{pairs("j", "*", "k", "v"), pairs("j", "1", "k", "v"), true},
		{pairs("j", "*", "k", "v"), pairs("j", "1", "k", "w"), false},
		{pairs("j", "2", "k", "v"), pairs("j", "1", "k", "v"), false},
		{pairs("j", "1", "k", "v", "l", "*"), pairs("k", "v"), true},
		{pairs("k", "*"), pairs("k", "v", "l", "v"), false},
		{pairs("k", "v"), pairs("k", "*"), false}, // * of a taint is a value like others
		{pairs("k", "*"), pairs("k", ""), true},
	} {
		if label.Bears(x.bears, x.taints) != x.want {
			t.Errorf("Bears(%v, %v): %v", x.bears, x.taints, !x.want)
		}
	}
}

// opposite is what P3.6 says of kinds.
func opposite(t api.Term) api.Term {
	t.Kind = map[int]int{api.TermIs: api.TermNot, api.TermNot: api.TermIs, api.TermHas: api.TermLacks, api.TermLacks: api.TermHas}[t.Kind]
	return t
}

func someTerms() (l []api.Term) {
	for kind := api.TermIs; kind <= api.TermLacks; kind++ {
		for _, x := range pairs("a", "1", "a", "2", "b", "1", "c", "") {
			l = append(l, api.Term{Kind: kind, Key: x.Key, Value: x.Value})
		}
	}
	return l
}

func someLabels() []api.Label {
	return pairs("a", "1", "a", "2", "b", "1", "b", "2", "a", "*", "c", "")
}

// TestOpposites (P3.6): just one of a term and its opposite holds.
func TestOpposites(t *testing.T) {
	eachList(3, someLabels(), func(l []api.Label) {
		for _, x := range someTerms() {
			if label.Holds([]api.Term{x}, l) == label.Holds([]api.Term{opposite(x)}, l) {
				t.Errorf("%v and its opposite of %v", x, l)
			}
		}
	})
}

// TestMoreTerms (P3.6): what holds with one more holds without it, wherever it stands.
func TestMoreTerms(t *testing.T) {
	eachList(2, someLabels(), func(l []api.Label) {
		eachList(2, someTerms(), func(terms []api.Term) {
			holds := label.Holds(terms, l)
			for _, x := range someTerms() {
				for i := range len(terms) + 1 {
					more := slices.Insert(slices.Clone(terms), i, x)
					if label.Holds(more, l) && !holds {
						t.Errorf("%v holds of %v, %v does not", more, l, terms)
					}
				}
			}
		})
	})
}

// TestMoreBorne (P3.6): what is borne with less is borne with one more, wherever it stands.
func TestMoreBorne(t *testing.T) {
	eachList(2, someLabels(), func(taints []api.Label) {
		eachList(2, someLabels(), func(bears []api.Label) {
			if !label.Bears(bears, taints) {
				return
			}
			for _, x := range someLabels() {
				for i := range len(bears) + 1 {
					more := slices.Insert(slices.Clone(bears), i, x)
					if !label.Bears(more, taints) {
						t.Errorf("%v bears %v, %v does not", bears, taints, more)
					}
				}
			}
		})
	})
}

// TestOnlyRead (P3.4): lists that are handed in stay as they are, their spare room too.
func TestOnlyRead(t *testing.T) {
	labels := pairs("b", "2", "a", "*", "a", "1", "z", "9")
	terms := []api.Term{{Kind: 2, Key: "b", Value: "1"}, {Kind: 4, Key: "a"}, {Kind: 3, Key: "a"}, {Kind: 9, Key: "z", Value: "z"}}
	hadLabels, hadTerms := slices.Clone(labels), slices.Clone(terms)
	for n := range len(labels) {
		l, x := labels[:n], terms[:n]
		label.Check(l)
		label.CheckBears(l)
		label.CheckTerms(x)
		label.Get(l, "a")
		label.Holds(x, l)
		label.Bears(l, l)
		label.Print(l)
		label.PrintTerms(x)
	}
	if !slices.Equal(labels, hadLabels) || !slices.Equal(terms, hadTerms) {
		t.Errorf("%v, %v have become %v, %v", hadLabels, hadTerms, labels, terms)
	}
}
