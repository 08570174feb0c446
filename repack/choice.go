package repack

import (
	"iter"
	"slices"

	"drayage/api"
	"drayage/fit"
	"drayage/heat"
	"drayage/place"
	"drayage/policy"
	"drayage/safe"
)

// choice is a node to which a pod may go, and the placement in which it is there.
type choice struct {
	node int
	p    []int
}

// choices goes through those of a pod, the best ahead; none of one that waits, or that there is not. Each is reckoned only when it is asked for, as most often the first one will do.
func (d draft) choices(pod int) iter.Seq[choice] {
	return func(yield func(x choice) bool) {
		off, e := place.Apply(d.s, d.p, api.Step{Kind: api.StepEvict, Pod: pod})
		if e != api.OK {
			return
		}
		for _, node := range fit.Rank(d.s, off, pod) {
			if node == d.p[pod] || policy.Drains(d.g, d.s.Nodes[node].Name) {
				continue
			}
			q, _ := place.Apply(d.s, off, api.Step{Kind: api.StepBind, Pod: pod, Node: node}) // no error: fit ranks only where it may be bound
			if !d.isWorse(q) && !yield(choice{node, q}) {
				return
			}
		}
	}
}

// isWorse tells whether anything is worse in a placement than with the pod where it is. That it may be bound says less: only that nothing is worse than when it was taken off.
func (d draft) isWorse(q []int) bool {
	worse, _ := safe.Worse(d.s, d.p, q) // no error: both are placements that may be
	return len(worse) > 0
}

// staysCool tells whether a choice does not make its node high.
func (d draft) staysCool(x choice) bool {
	return !slices.Contains(heat.High(d.s, x.p, d.g), x.node)
}

// joins tells whether a choice is beside other pods, and does not make its node high: on a node without pods, one would be filled for one that is emptied.
func (d draft) joins(x choice) bool {
	return slices.Contains(d.p, x.node) && d.staysCool(x)
}
