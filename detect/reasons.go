package detect

import (
	"slices"

	"drayage/api"
	"drayage/place"
	"drayage/policy"
)

// reason is one why a pod that does not wait is to go: it counts, if what it asks for is on (0: always).
type reason struct {
	why, on int
	isSo    func(v view, pod int) bool
}

// reasons answers all of them, by rising why: the first one that is so is told.
func reasons() []reason {
	return []reason{
		{why: api.WhyDrain, isSo: view.isDrained},
		{why: api.WhyNode, isSo: breaks(api.ClauseWhere)},
		{why: api.WhyNode, on: api.OnTaint, isSo: breaks(api.ClauseTaint)},
		{why: api.WhyNear, on: api.OnWith, isSo: breaks(api.ClauseWith, api.ClauseApart)},
		{why: api.WhyDouble, on: api.OnDouble, isSo: breaks(api.ClauseDouble)},
		{why: api.WhySpread, on: api.OnSpread, isSo: view.isCrowded},
		{why: api.WhyHigh, isSo: view.isHigh},
		{why: api.WhyLow, on: api.OnEmpty, isSo: view.isLow},
	}
}

// breaks answers what tells whether one of these clauses of a pod is broken.
func breaks(kinds ...int) func(v view, pod int) bool {
	return func(v view, pod int) bool {
		return slices.ContainsFunc(v.broken, func(c api.Clause) bool { return c.A == pod && slices.Contains(kinds, c.Kind) })
	}
}

func (v view) isDrained(pod int) bool { return policy.Drains(v.g, v.s.Nodes[v.p[pod]].Name) }

func (v view) isHigh(pod int) bool { return slices.Contains(v.high, v.p[pod]) }

func (v view) isLow(pod int) bool { return slices.Contains(v.low, v.p[pod]) }

// isCrowded tells whether a pod is where its owner, whose skew is too great, has most.
func (v view) isCrowded(pod int) bool {
	owner := slices.IndexFunc(v.s.Owners, func(o api.Owner) bool { return o.Name == v.s.Pods[pod].Owner })
	if owner < 0 || len(v.fullest[owner]) == 0 { // where no skew is too great, place.Domain need not look through the whole cluster
		return false
	}
	domain, is := place.Domain(v.s, v.p[pod], v.s.Owners[owner].Topo)
	return is && slices.Contains(v.fullest[owner], domain)
}
