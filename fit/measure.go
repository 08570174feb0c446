package fit

import (
	"drayage/api"
	"drayage/place"
)

// whole is all that there is of a quantity, per mille.
const whole = 1000

// left is Left of a placement that may be, and a node that there is.
func left(s api.Snap, p []int, node int) int {
	used := place.Used(s, p, node)
	sum := 0
	for kind, has := range s.Nodes[node].Cap {
		if has > 0 {
			sum += whole * max(0, has-used[kind]) / has
		}
	}
	return sum
}

// sizesOf measures the pods of a cluster that may be.
func sizesOf(s api.Snap) sizes {
	most := mostOf(s.Nodes)
	var l sizes
	for pod, x := range s.Pods {
		for kind, n := range x.Req {
			if most[kind] > 0 {
				l[pod] = max(l[pod], whole*n/most[kind])
			}
		}
	}
	return l
}

// mostOf answers of each quantity the greatest that a node has.
func mostOf(nodes []api.Node) (most api.Vec) {
	for _, n := range nodes {
		for kind, has := range n.Cap {
			most[kind] = max(most[kind], has)
		}
	}
	return most
}

// among lists those of pods that are places in a list of so many (MaxPods at most), each once, rising.
func among(pods []int, count int) []int {
	var isThere [api.MaxPods]bool
	for _, pod := range pods {
		if isPlace(pod, count) {
			isThere[pod] = true
		}
	}
	var places []int
	for pod, is := range isThere {
		if is {
			places = append(places, pod)
		}
	}
	return places
}

// isPlace tells whether there is that place in a list of so many.
func isPlace(i, count int) bool {
	return 0 <= i && i < count
}
