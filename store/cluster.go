package store

import (
	"drayage/api"
	"drayage/place"
	"drayage/snap"
	"drayage/vec"
)

// cluster is one as it goes. The On of its pods alone tells where they are; what nodes have is kept beside it, so that it is not added up anew each time it is asked for.
type cluster struct {
	now  api.Snap
	gone [api.MaxPods]bool
	used [api.MaxNodes]api.Vec
}

// clusterOf makes one of a cluster that may be.
func clusterOf(s api.Snap) *cluster {
	c := &cluster{now: snap.Copy(s)}
	p := snap.Placement(s)
	for node := range s.Nodes {
		c.used[node] = place.Used(s, p, node)
	}
	return c
}

func (c *cluster) waits(pod int) bool { return c.now.Pods[pod].On == "" }

func (c *cluster) isLost(node int) bool { return c.now.Nodes[node].Lost }

// put binds a pod that waits.
func (c *cluster) put(pod, node int) {
	x := &c.now.Pods[pod]
	c.used[node], _ = vec.Plus(c.used[node], x.Req) // no error: in a cluster that may be, no sum of requests goes too far
	x.On = c.now.Nodes[node].Name
}

// take lets a pod wait that does not.
func (c *cluster) take(pod int) {
	x := &c.now.Pods[pod]
	node := snap.Node(c.now, x.On)
	c.used[node], _ = vec.Minus(c.used[node], x.Req) // no error: what the pod asks for was added there
	x.On = ""
}

// empty lets all pods of a node wait.
func (c *cluster) empty(node int) {
	for pod, on := range snap.Placement(c.now) {
		if on == node {
			c.take(pod)
		}
	}
}
