package snap

import (
	"drayage/api"
	"drayage/label"
	"drayage/vec"
)

// Check tells whether a cluster may be, and whether its sums may be.
func Check(s api.Snap) api.Errno {
	if !mayBe(s) {
		return api.ErrSnap
	}
	if !sumMayBe(each(s.Nodes, func(n api.Node) api.Vec { return n.Cap })) ||
		!sumMayBe(each(s.Pods, func(p api.Pod) api.Vec { return p.Req })) {
		return api.ErrOver
	}
	return api.OK
}

func sumMayBe(rows []api.Vec) bool {
	_, e := vec.Plus(rows...)
	return e == api.OK
}

// mayBe asks for the numbers of nodes, pods and owners first, so that a cluster that is far too great is not gone through.
func mayBe(s api.Snap) bool {
	return len(s.Nodes) <= api.MaxNodes && len(s.Pods) <= api.MaxPods && len(s.Owners) <= api.MaxOwners &&
		mayBeNames(each(s.Nodes, nodeName)) && mayBeNames(each(s.Pods, podName)) && mayBeNames(each(s.Owners, ownerName)) &&
		all(s.Nodes, mayBeNode) &&
		all(s.Pods, func(p api.Pod) bool { return mayBePod(p) && isKnown(s, p) }) &&
		all(s.Owners, mayBeOwner)
}

// mayBeNames tells whether names are names, and rise.
func mayBeNames(names []string) bool {
	for i, name := range names {
		if !label.Name(name) || i > 0 && name <= names[i-1] {
			return false
		}
	}
	return true
}

func mayBeNode(n api.Node) bool {
	return vec.Check(n.Cap) == api.OK && label.Check(n.Labels) == api.OK && label.Check(n.Taints) == api.OK
}

// mayBePod tells whether a pod may be, whatever else there is.
func mayBePod(p api.Pod) bool {
	return vec.Check(p.Req) == api.OK &&
		label.Check(p.Labels) == api.OK &&
		label.CheckTerms(p.Where) == api.OK &&
		label.CheckBears(p.Bears) == api.OK &&
		mayBeNear(p.With) && mayBeNear(p.Apart)
}

// isKnown tells whether there are the owner and the node that a pod names.
func isKnown(s api.Snap, p api.Pod) bool {
	return (p.Owner == "" || Owner(s, p.Owner) != none) && (p.On == "" || takesPods(s, Node(s, p.On)))
}

func mayBeNear(n api.Near) bool {
	if n.Topo == "" {
		return len(n.Terms) == 0
	}
	return label.Name(n.Topo) && label.CheckTerms(n.Terms) == api.OK
}

func mayBeOwner(o api.Owner) bool {
	if o.Min < 0 || o.Min > api.MaxPods {
		return false
	}
	if o.Topo == "" {
		return o.Skew == 0
	}
	return label.Name(o.Topo) && 1 <= o.Skew && o.Skew <= api.MaxPods
}

func nodeName(n api.Node) string   { return n.Name }
func podName(p api.Pod) string     { return p.Name }
func ownerName(o api.Owner) string { return o.Name }

// each answers what of makes of each element. Of nil it is nil, so that a copy is the same in that, too.
func each[T, U any](l []T, of func(x T) U) []U {
	if l == nil {
		return nil
	}
	made := make([]U, len(l))
	for i, x := range l {
		made[i] = of(x)
	}
	return made
}

// all tells whether each element is so.
func all[T any](l []T, isSo func(x T) bool) bool {
	for _, x := range l {
		if !isSo(x) {
			return false
		}
	}
	return true
}
