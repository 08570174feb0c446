package clause

import (
	"slices"

	"drayage/api"
	"drayage/label"
	"drayage/place"
	"drayage/vec"
)

// rules answers the rule of each kind.
func rules() map[int]rule {
	return map[int]rule{
		api.ClauseCap:    {node: overCap},
		api.ClauseWhere:  {pod: notWhere},
		api.ClauseTaint:  {pod: notBorne},
		api.ClauseWith:   {pod: alone},
		api.ClauseApart:  {pod: notApart},
		api.ClauseDouble: {pod: double},
		api.ClauseSpread: {owner: overSkew},
		api.ClauseMin:    {owner: belowMin},
	}
}

// overCap adds one quantity up itself: place.Used would look through the whole cluster again for each.
func overCap(v view, node, quantity int) (by int, is bool) {
	var asked api.Vec // of the other quantities nothing, which is never more than there is
	for pod, on := range v.p {
		if on == node {
			asked[quantity] += v.s.Pods[pod].Req[quantity] // it can't go too far: of a cluster that may be, neither does the sum of all
		}
	}
	return vec.Over(asked, v.s.Nodes[node].Cap), true
}

func notWhere(v view, pod int) (by int, is bool) {
	for _, term := range v.s.Pods[pod].Where {
		if !label.Holds([]api.Term{term}, v.s.Nodes[v.p[pod]].Labels) {
			by++
		}
	}
	return by, true
}

func notBorne(v view, pod int) (by int, is bool) {
	for _, taint := range v.s.Nodes[v.p[pod]].Taints {
		if !label.Bears(v.s.Pods[pod].Bears, []api.Label{taint}) {
			by++
		}
	}
	return by, true
}

// alone asks whether nobody is near whom the pod asks for: it may be that one itself.
func alone(v view, pod int) (by int, is bool) {
	with := v.s.Pods[pod].With
	if with.Topo == "" {
		return 0, false
	}
	if len(v.near(pod, with)) == 0 {
		by = 1
	}
	return by, true
}

func notApart(v view, pod int) (by int, is bool) {
	apart := v.s.Pods[pod].Apart
	if apart.Topo == "" {
		return 0, false
	}
	for _, other := range v.near(pod, apart) {
		if other != pod {
			by++
		}
	}
	return by, true
}

func double(v view, pod int) (by int, is bool) {
	owner := v.s.Pods[pod].Owner
	if !v.isSingle(owner) {
		return 0, false
	}
	for other, node := range v.p {
		if other != pod && node == v.p[pod] && v.s.Pods[other].Owner == owner {
			by++
		}
	}
	return by, true
}

func overSkew(v view, owner int) (by int, is bool) {
	o := v.s.Owners[owner]
	if o.Topo == "" {
		return 0, false
	}
	spread := place.Spread(v.s, v.p, owner)
	if len(spread) == 0 {
		return 0, true
	}
	return max(0, slices.Max(spread)-slices.Min(spread)-o.Skew), true
}

func belowMin(v view, owner int) (by int, is bool) {
	return max(0, v.s.Owners[owner].Min-place.Placed(v.s, v.p, owner)), true
}

// near answers the pods that are in the domain of a pod's node, that pod too, and are one of the terms. Nobody is on a lost node, so that a node's label tells its domain: place.Domain would look through the whole cluster again for each.
func (v view) near(pod int, n api.Near) (pods []int) {
	domain, is := label.Get(v.s.Nodes[v.p[pod]].Labels, n.Topo)
	if !is {
		return nil
	}
	for other, node := range v.p {
		if node == api.Nowhere || !label.Holds(n.Terms, v.s.Pods[other].Labels) {
			continue
		}
		if value, is := label.Get(v.s.Nodes[node].Labels, n.Topo); is && value == domain {
			pods = append(pods, other)
		}
	}
	return pods
}

// isSingle tells whether there is an owner of that name that is.
func (v view) isSingle(name string) bool {
	return slices.ContainsFunc(v.s.Owners, func(o api.Owner) bool { return o.Single && o.Name == name })
}
