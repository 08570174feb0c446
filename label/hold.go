package label

import (
	"slices"
	"strings"

	"drayage/api"
)

// Get answers the value of the first label of a key.
func Get(l []api.Label, key string) (value string, is bool) {
	for _, x := range l {
		if x.Key == key {
			return strings.Clone(x.Value), true // what is answered is new memory
		}
	}
	return "", false
}

// Holds tells whether all terms hold of labels.
func Holds(terms []api.Term, l []api.Label) bool {
	for _, t := range terms {
		if !holds(t, l) {
			return false
		}
	}
	return true
}

// holds asks all labels, not the first one of the key: labels that may not be could have a key twice.
func holds(t api.Term, l []api.Label) bool {
	hasKey := func(x api.Label) bool { return x.Key == t.Key }
	hasBoth := func(x api.Label) bool { return x.Key == t.Key && x.Value == t.Value }
	switch t.Kind {
	case api.TermIs:
		return slices.ContainsFunc(l, hasBoth)
	case api.TermNot:
		return !slices.ContainsFunc(l, hasBoth)
	case api.TermHas:
		return slices.ContainsFunc(l, hasKey)
	}
	return !slices.ContainsFunc(l, hasKey)
}

// Bears tells whether all taints are borne.
func Bears(bears, taints []api.Label) bool {
	for _, taint := range taints {
		bearsIt := func(b api.Label) bool {
			return b.Key == taint.Key && (b.Value == taint.Value || b.Value == anyValue)
		}
		if !slices.ContainsFunc(bears, bearsIt) {
			return false
		}
	}
	return true
}
