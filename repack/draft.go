package repack

import (
	"slices"

	"drayage/api"
	"drayage/fit"
	"drayage/heat"
)

// draft is a target as far as it is worked out. Its p is never written to, but another one takes its place: so a copy of a draft can be gone on with, and thrown away.
type draft struct {
	s      api.Snap
	g      api.Goal
	p      []int             // where pods are so far
	isGone [api.MaxPods]bool // which of them have gone, be it back again
	gone   int               // how many these are
	stays  []api.Wrong
}

// attempt is what is tried for a node that has pods which are to go.
type attempt struct {
	isDue func(d draft, node int) bool // whether there is still something to be done for it
	suits func(d draft, x choice) bool // which of their choices its pods may take
}

// attemptFor answers what is tried where pods are to go for that reason.
func attemptFor(why int) attempt {
	switch why {
	case api.WhyHigh:
		return attempt{isDue: draft.isHigh, suits: draft.staysCool}
	case api.WhyLow:
		return attempt{isDue: draft.isLow, suits: draft.joins}
	}
	return attempt{
		isDue: func(draft, int) bool { return true },
		suits: func(draft, choice) bool { return true },
	}
}

func (d draft) isHigh(node int) bool { return slices.Contains(heat.High(d.s, d.p, d.g), node) }

func (d draft) isLow(node int) bool { return slices.Contains(heat.Low(d.s, d.p, d.g), node) }

// mend lets the pods that are to go do so, each by itself; but not those that are to go only together, so that their node is empty.
func (d *draft) mend(wrong []api.Wrong) {
	for _, w := range wrong {
		if w.Why == api.WhyLow {
			continue
		}
		try := attemptFor(w.Why)
		switch {
		case d.gone >= d.g.MaxMoves:
			d.stays = append(d.stays, w)
		case try.isDue(*d, w.Node) && !d.goes(w.Pod, try):
			d.stays = append(d.stays, w)
		}
	}
}

// empty lets all pods of each node that could be empty go, or none of them.
func (d *draft) empty(wrong []api.Wrong) {
	try := attemptFor(api.WhyLow)
	for node := range d.s.Nodes {
		low := lowOn(wrong, node)
		if len(low) == 0 || !try.isDue(*d, node) {
			continue
		}
		tried := *d
		if tried.allGo(node, try) && tried.gone <= d.g.MaxMoves {
			*d = tried
		} else {
			d.stays = append(d.stays, low...)
		}
	}
}

// lowOn lists those of the pods that are to go that do so because that node could be empty.
func lowOn(wrong []api.Wrong, node int) (low []api.Wrong) {
	for _, w := range wrong {
		if w.Why == api.WhyLow && w.Node == node {
			low = append(low, w)
		}
	}
	return low
}

// allGo lets all pods of a node go, also those that have come there by now; it tells whether each finds where to.
func (d *draft) allGo(node int, try attempt) bool {
	for _, pod := range fit.Order(d.s, heat.Pods(d.s, d.p, node)) {
		if !d.goes(pod, try) {
			return false
		}
	}
	return true
}

// goes lets a pod go to the first of its choices that suits; it tells whether there is one.
func (d *draft) goes(pod int, try attempt) bool {
	for x := range d.choices(pod) {
		if !try.suits(*d, x) {
			continue
		}
		d.p = x.p
		if !d.isGone[pod] {
			d.isGone[pod] = true
			d.gone++
		}
		return true
	}
	return false
}
