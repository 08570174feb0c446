package detect

import (
	"slices"

	"drayage/api"
	"drayage/clause"
	"drayage/heat"
	"drayage/place"
	"drayage/policy"
)

// view is a placement that may be, with its cluster and a policy, and what is asked of them for each pod: it is reckoned once, as each call below looks through the whole cluster. The zero one has no pods.
type view struct {
	s         api.Snap
	p         []int
	g         api.Goal
	broken    []api.Clause
	high, low []int
	fullest   [][]string // of each owner whose ClauseSpread is broken: the domains that have most of its pods
}

// look answers the zero view, and false, of what may not be.
func look(s api.Snap, p []int, g api.Goal) (v view, is bool) {
	if policy.Check(g) != api.OK || place.Check(s, p) != api.OK {
		return view{}, false
	}
	v = view{s: s, p: p, g: g, broken: clause.Broken(s, p), high: heat.High(s, p, g), low: heat.Low(s, p, g)}
	v.fullest = make([][]string, len(s.Owners))
	for _, c := range v.broken {
		if c.Kind == api.ClauseSpread {
			v.fullest[c.A] = fullest(s, p, c.A)
		}
	}
	return v, true
}

// fullest answers the domains that have most of an owner's pods.
func fullest(s api.Snap, p []int, owner int) (domains []string) {
	spread := place.Spread(s, p, owner) // in the order of the domains
	for i, domain := range place.Domains(s, s.Owners[owner].Topo) {
		if spread[i] == slices.Max(spread) {
			domains = append(domains, domain)
		}
	}
	return domains
}

// wrong answers the pods that are to go, by rising Pod.
func (v view) wrong() (l []api.Wrong) {
	for pod, node := range v.p {
		if why := v.why(pod); why != 0 {
			l = append(l, api.Wrong{Why: why, Pod: pod, Node: node})
		}
	}
	return l
}

// why answers the first reason that is so; 0 without one, of a pod that waits, and of none.
func (v view) why(pod int) int {
	if pod < 0 || pod >= len(v.p) || v.p[pod] == api.Nowhere {
		return 0
	}
	for _, r := range reasons() {
		if v.g.On&r.on == r.on && r.isSo(v, pod) {
			return r.why
		}
	}
	return 0
}
