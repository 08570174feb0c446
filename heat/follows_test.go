package heat_test

import (
	"slices"
	"testing"

	"drayage/api"
	"drayage/heat"
	"drayage/place"
	"drayage/vec"
)

// sharesOf reckons a node's shares by the chapter's words, from what place tells of it.
func sharesOf(s api.Snap, p []int, node int) (x [2]int) {
	used, has := place.Used(s, p, node), s.Nodes[node].Cap
	for kind := range x {
		switch {
		case has[kind] > 0:
			x[kind] = 1000 * used[kind] / has[kind]
		case used[kind] > 0:
			x[kind] = 1000
		}
	}
	return x
}

// checkWords asks that all that is told is what the words of P12.1 and P12.2 say.
func checkWords(t *testing.T, s api.Snap, p []int, g api.Goal) {
	t.Helper()
	var lows, highs, idles []int
	for node, n := range s.Nodes {
		var pods []int
		for pod := range s.Pods {
			if p[pod] == node {
				pods = append(pods, pod)
			}
		}
		x := sharesOf(s, p, node)
		checkPods(t, s, p, node, pods...)
		checkShare(t, s, p, node, x[0], x[1])
		if !n.Lost && len(pods) > 0 && x[0] < g.Low[0] && x[1] < g.Low[1] {
			lows = append(lows, node)
		}
		if !n.Lost && (g.High[0] > 0 && x[0] > g.High[0] || g.High[1] > 0 && x[1] > g.High[1]) {
			highs = append(highs, node)
		}
		if !n.Lost && len(pods) == 0 {
			idles = append(idles, node)
		}
	}
	checkLow(t, s, p, g, lows...)
	checkHigh(t, s, p, g, highs...)
	checkIdle(t, s, p, idles...)
}

// TestAgainstWords (P12.1, P12.2): of clusters made at random, what is told is what the chapter's words say.
func TestAgainstWords(t *testing.T) {
	var lows, highs, idles int
	eachCluster(t, 1500, func(s api.Snap, p []int, g api.Goal) {
		checkWords(t, s, p, g)
		lows, highs, idles = lows+len(heat.Low(s, p, g)), highs+len(heat.High(s, p, g)), idles+len(heat.Idle(s, p))
	})
	if min(lows, highs, idles) < 300 {
		t.Errorf("only %d are low, %d high, %d idle", lows, highs, idles)
	}
}

// TestAllPlacements (P12.1, P12.2): of a small cluster all placements, and policies whose bounds are the shares that there are, and those beside.
func TestAllPlacements(t *testing.T) {
	s := api.Snap{
		Nodes: []api.Node{{Name: "a", Cap: api.Vec{4, 2}}, {Name: "b", Cap: api.Vec{3}, Cordon: true}, {Name: "c", Cap: api.Vec{4, 4}, Lost: true}},
		Pods:  []api.Pod{{Name: "p", Req: api.Vec{1, 1}}, {Name: "q", Req: api.Vec{2}}, {Name: "r"}},
	}
	bounds := []int{0, 1, 249, 250, 251, 333, 500, 666, 667, 750, 751, 999, 1000}
	for i := range 27 {
		p := []int{i%3 - 1, i/3%3 - 1, i/9 - 1}
		for _, h := range bounds {
			for _, l := range bounds {
				if l <= h {
					checkWords(t, s, p, api.Goal{Low: [2]int{l, l}, High: [2]int{h, h}})
				}
				checkWords(t, s, p, api.Goal{Low: [2]int{0, l}, High: [2]int{h, l}})
			}
		}
	}
}

// TestNoneIsBoth (P12.4): no node is low and high, nor low or high and idle.
func TestNoneIsBoth(t *testing.T) {
	eachCluster(t, 1500, func(s api.Snap, p []int, g api.Goal) {
		l, h, idle := heat.Low(s, p, g), heat.High(s, p, g), heat.Idle(s, p)
		for node := range s.Nodes {
			if slices.Contains(l, node) && slices.Contains(h, node) {
				t.Errorf("%d is low and high", node)
			}
			if slices.Contains(idle, node) && (slices.Contains(l, node) || slices.Contains(h, node)) {
				t.Errorf("%d is idle, and low or high", node)
			}
		}
	})
}

// TestPodMore (P12.4): a pod more on a node makes none of its shares less, and no other node's another one.
func TestPodMore(t *testing.T) {
	bound := 0
	eachCluster(t, 400, func(s api.Snap, p []int, _ api.Goal) {
		for pod := range p {
			for to := range s.Nodes {
				q, e := place.Apply(s, p, api.Step{Kind: api.StepBind, Pod: pod, Node: to})
				if e != api.OK {
					continue
				}
				bound++
				for node := range s.Nodes {
					x, y := heat.Share(s, p, node), heat.Share(s, q, node)
					if node == to && (y[0] < x[0] || y[1] < x[1]) || node != to && x != y {
						t.Errorf("%d on %d makes %v of %d %v", pod, to, x, node, y)
					}
				}
			}
		}
	})
	if bound < 5000 {
		t.Errorf("only %d pods were bound", bound)
	}
}

// TestNoneTooFull (P12.5): where no node has more than it can have, no share is above 1000, and so no node is high by a High of 1000.
func TestNoneTooFull(t *testing.T) {
	asked := 0
	eachCluster(t, 3000, func(s api.Snap, p []int, _ api.Goal) {
		for node, n := range s.Nodes { // as long as it has more than it can have, its first pod is taken off
			for !vec.Fits(place.Used(s, p, node), n.Cap) {
				p[slices.Index(p, node)] = wait
			}
		}
		for node := range s.Nodes {
			x := heat.Share(s, p, node)
			if x[0] > 1000 || x[1] > 1000 {
				t.Errorf("the shares of %d are %v", node, x)
			}
			if x != [2]int{} {
				asked++
			}
		}
		checkHigh(t, s, p, high(1000, 1000))
	})
	if asked < 1000 {
		t.Errorf("only %d nodes were asked for something", asked)
	}
	s := example()
	s.Pods[1].Req = api.Vec{70, 90}
	checkShare(t, s, []int{0, 0}, 0, 1000, 1000) // just as much as it can have
	checkHigh(t, s, []int{0, 0}, high(1000, 1000))
}
