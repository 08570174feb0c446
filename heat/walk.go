package heat

import (
	"iter"
	"slices"

	"drayage/api"
	"drayage/quant"
)

// whole is all that a node has, per mille.
const whole = 1000

// nodesThat goes through the nodes that are not lost, and are so.
func nodesThat(s api.Snap, isSo func(node int) bool) iter.Seq[int] {
	return func(yield func(node int) bool) {
		for node, n := range s.Nodes {
			if !n.Lost && isSo(node) && !yield(node) {
				return
			}
		}
	}
}

// podsOn goes through the pods of a node.
func podsOn(p []int, node int) iter.Seq[int] {
	return func(yield func(pod int) bool) {
		for pod, on := range p {
			if on == node && !yield(pod) {
				return
			}
		}
	}
}

func hasPods(p []int, node int) bool { return slices.Contains(p, node) }

// shares is Share of a placement that may be. It adds up itself: place.Used would look through the whole cluster again for each node.
func shares(s api.Snap, p []int, node int) [2]int {
	var asked [2]int // cpu and memory are a row's first two
	for pod := range podsOn(p, node) {
		for kind := range asked {
			asked[kind] += s.Pods[pod].Req[kind] // it can't go too far: of a cluster that may be, neither does the sum of all
		}
	}
	var x [2]int
	for kind := range x {
		x[kind] = share(asked[kind], s.Nodes[node].Cap[kind])
	}
	return x
}

// share tells also what something is of nothing: all of it.
func share(asked, has int) int {
	if has == 0 && asked > 0 {
		return whole
	}
	n, _ := quant.Share(asked, has) // no error: both are quantities
	return n
}
