package fit

import (
	"cmp"
	"slices"

	"drayage/api"
)

// lefts are of each node what is left on it, when a pod that looks for one is on it.
type lefts [api.MaxNodes]int

// compare puts the node with less left ahead.
func (l lefts) compare(a, b int) int {
	return either(cmp.Compare(l[a], l[b]), cmp.Compare(a, b))
}

// sizes are those of pods.
type sizes [api.MaxPods]int

// compare puts the greater pod ahead.
func (l sizes) compare(a, b int) int {
	return either(cmp.Compare(l[b], l[a]), cmp.Compare(a, b))
}

// either answers what two comparisons say together: the second one counts where the first one says that they are alike.
func either(first, second int) int {
	if first != 0 {
		return first
	}
	return second
}

// sorted sorts a list that is nobody else's, and answers it.
func sorted[T any](l []T, compare func(a, b T) int) []T {
	slices.SortFunc(l, compare)
	return l
}
