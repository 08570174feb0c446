package snap

import (
	"strings"

	"drayage/api"
)

// Copy answers the same cluster in memory of its own.
func Copy(s api.Snap) api.Snap {
	return api.Snap{
		Nodes:  each(s.Nodes, copyNode),
		Pods:   each(s.Pods, copyPod),
		Owners: each(s.Owners, copyOwner),
	}
}

func copyNode(n api.Node) api.Node {
	n.Name = strings.Clone(n.Name)
	n.Labels = each(n.Labels, copyLabel)
	n.Taints = each(n.Taints, copyLabel)
	return n
}

func copyPod(p api.Pod) api.Pod {
	p.Name = strings.Clone(p.Name)
	p.Owner = strings.Clone(p.Owner)
	p.Labels = each(p.Labels, copyLabel)
	p.Where = each(p.Where, copyTerm)
	p.Bears = each(p.Bears, copyLabel)
	p.With = copyNear(p.With)
	p.Apart = copyNear(p.Apart)
	p.On = strings.Clone(p.On)
	return p
}

func copyOwner(o api.Owner) api.Owner {
	o.Name = strings.Clone(o.Name)
	o.Topo = strings.Clone(o.Topo)
	return o
}

func copyNear(n api.Near) api.Near {
	return api.Near{Topo: strings.Clone(n.Topo), Terms: each(n.Terms, copyTerm)}
}

func copyLabel(l api.Label) api.Label {
	return api.Label{Key: strings.Clone(l.Key), Value: strings.Clone(l.Value)}
}

func copyTerm(t api.Term) api.Term {
	return api.Term{Kind: t.Kind, Key: strings.Clone(t.Key), Value: strings.Clone(t.Value)}
}
