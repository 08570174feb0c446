package place

import (
	"iter"
	"strings"

	"drayage/api"
	"drayage/snap"
)

// podsOn goes through the pods of a node.
func podsOn(p []int, node int) iter.Seq[int] {
	return func(yield func(pod int) bool) {
		for pod, on := range p {
			if on == node && !yield(pod) {
				return
			}
		}
	}
}

// podsOf goes through the pods of an owner that do not wait.
func podsOf(s api.Snap, p []int, owner int) iter.Seq[int] {
	return func(yield func(pod int) bool) {
		for _, pod := range snap.Members(s, owner) {
			if p[pod] != api.Nowhere && !yield(pod) {
				return
			}
		}
	}
}

// emptyDomains gathers the domains of a key: each has a 0, to be counted up.
func emptyDomains(s api.Snap, key string) map[string]int {
	domains := map[string]int{}
	for node := range s.Nodes {
		if value, is := domainOf(s, node, key); is {
			domains[value] = 0
		}
	}
	return domains
}

// domainOf is Domain of a cluster that may be: no label of it has an empty key, and no two of a node have one key.
func domainOf(s api.Snap, node int, key string) (value string, is bool) {
	if !takesPods(s, node) {
		return "", false
	}
	for _, l := range s.Nodes[node].Labels {
		if l.Key == key {
			return strings.Clone(l.Value), true // what is answered is new memory
		}
	}
	return "", false
}

// isOwner tells whether a placement may be, and there is an owner at that place.
func isOwner(s api.Snap, p []int, owner int) bool {
	return Check(s, p) == api.OK && isPlace(owner, len(s.Owners))
}

// takesPods tells whether there is a node at that place that is not lost.
func takesPods(s api.Snap, node int) bool {
	return isPlace(node, len(s.Nodes)) && !s.Nodes[node].Lost
}

// isPlace tells whether there is that place in a list of so many.
func isPlace(i, count int) bool {
	return 0 <= i && i < count
}
