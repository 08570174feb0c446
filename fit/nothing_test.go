package fit_test

import (
	"slices"
	"testing"

	"drayage/api"
	"drayage/fit"
)

// full makes a cluster with a node that is lost (1) and one that is cordoned (2), of whose lists none is empty. Pod 2 may be bound on n3 and on n0 where the first two are on n0.
func full() api.Snap {
	s := of([]api.Vec{{100, 100}, {100, 100}, {100, 100}, {40, 40}}, []api.Vec{{10, 20}, {20, 10}, {30, 30}})
	s.Nodes[1].Lost, s.Nodes[2].Cordon = true, true
	for node, zone := range []string{"x", "x", "y", "y"} {
		s.Nodes[node].Labels, s.Nodes[node].Taints = pairs("zone", zone), pairs("gpu", "1")
	}
	for pod := range s.Pods {
		x := &s.Pods[pod]
		x.Owner, x.Labels, x.Bears, x.Where = "o", pairs("app", "web"), pairs("gpu", "*"), []api.Term{{Kind: api.TermHas, Key: "zone"}}
		x.With, x.Apart = api.Near{Topo: "zone", Terms: is("app", "web")}, api.Near{Topo: "zone", Terms: is("app", "no")}
	}
	s.Owners = []api.Owner{{Name: "o", Min: 1, Topo: "zone", Skew: 3}}
	return s
}

// checkNothing asks what is told of a placement that may not be.
func checkNothing(t *testing.T, what string, s api.Snap, p []int, e api.Errno) {
	t.Helper()
	for node := -1; node <= 9; node++ {
		if n := fit.Left(s, p, node); n != 0 {
			t.Errorf("%s: Left(%v, %d): %d", what, p, node, n)
		}
	}
	for pod := -1; pod <= 25; pod++ {
		if l := fit.Rank(s, p, pod); len(l) != 0 {
			t.Errorf("%s: Rank(%v, %d): %v", what, p, pod, l)
		}
		if node, is := fit.Best(s, p, pod); node != 0 || is {
			t.Errorf("%s: Best(%v, %d): %d, %t", what, p, pod, node, is)
		}
	}
	for _, pods := range [][]int{nil, {}, {2}, {0, 1, 2}, far(3)} {
		if q, waits, is := fit.Pack(s, p, pods); len(q) != 0 || len(waits) != 0 || is != e {
			t.Errorf("%s: Pack(%v, %v): %v, %v, %d, not %d", what, p, pods, q, waits, is, e)
		}
	}
}

// TestFull: of what is handed in below something is told, as long as it may be.
func TestFull(t *testing.T) {
	s := full()
	checkLeft(t, s, []int{0, 0, wait}, 0, 1400)
	checkRank(t, s, []int{0, 0, wait}, 2, 3, 0)
	checkOrder(t, s, []int{0, 1, 2}, 2, 0, 1)
	checkPack(t, s, []int{0, 0, wait}, []int{2}, []int{0, 0, 3})
}

// TestNoPlacement (P14.1, P14.3): as many numbers as pods, each Nowhere or the place of a node that is not lost; else nothing, and ErrArg. Order hangs on no placement.
func TestNoPlacement(t *testing.T) {
	s := full()
	checkNothing(t, "none", s, nil, api.ErrArg)
	checkNothing(t, "one too few", s, []int{0, wait}, api.ErrArg)
	checkNothing(t, "one too many", s, []int{0, 0, wait, 0}, api.ErrArg)
	checkNothing(t, "one too many, that waits", s, []int{0, 0, wait, wait}, api.ErrArg)
	checkNothing(t, "far too many", s, make([]int, 100000), api.ErrArg)
	checkNothing(t, "one, of nothing", api.Snap{}, []int{wait}, api.ErrArg)
	for pod := range s.Pods {
		for _, node := range append(far(len(s.Nodes)), 1) {
			p := []int{wait, wait, wait}
			if p[pod] = node; node != wait {
				checkNothing(t, "on no node", s, p, api.ErrArg)
			}
		}
	}
}

// TestNoCluster (P14.1 to P14.3): of one that may not be nothing, and its error, ahead of what is wrong with the placement.
func TestNoCluster(t *testing.T) {
	for what, change := range map[string]func(s *api.Snap){
		"nodes that fall":       func(s *api.Snap) { slices.Reverse(s.Nodes) },
		"a node twice":          func(s *api.Snap) { s.Nodes[1].Name = "n0" },
		"too many nodes":        func(s *api.Snap) { s.Nodes = slices.Repeat(s.Nodes, 3) },
		"too many pods":         func(s *api.Snap) { s.Pods = slices.Repeat(s.Pods, 9) },
		"far too many of both":  func(s *api.Snap) { s.Nodes, s.Pods = make([]api.Node, 1000), make([]api.Pod, 100000) },
		"a pod without a name":  func(s *api.Snap) { s.Pods[0].Name = "" },
		"an owner that is none": func(s *api.Snap) { s.Pods[1].Owner = "x" },
		"a pod on a lost node":  func(s *api.Snap) { s.Pods[2].On = "n1" },
		"a request below 0":     func(s *api.Snap) { s.Pods[2].Req[api.Extra] = -1 },
		"a request too great":   func(s *api.Snap) { s.Pods[2].Req[api.Extra] = most + 1 },
		"a cap below 0":         func(s *api.Snap) { s.Nodes[3].Cap[api.Mem] = -100 },
		"a key twice":           func(s *api.Snap) { s.Nodes[2].Labels = pairs("zone", "x", "zone", "y") },
		"a skew of 0":           func(s *api.Snap) { s.Owners[0].Skew = 0 },
	} {
		s := full()
		change(&s)
		for _, p := range [][]int{{0, 0, wait}, {wait, wait, wait}, {9, 9, 9}, nil} {
			checkNothing(t, what, s, p, api.ErrSnap)
		}
		for _, pods := range [][]int{nil, {2}, {0, 1, 2}, far(3)} {
			checkOrder(t, s, pods)
		}
	}
}

// TestTooFar (W1, P14.2, P14.3): of one whose sums go too far nothing, and ErrOver.
func TestTooFar(t *testing.T) {
	for what, change := range map[string]func(s *api.Snap){
		"caps":     func(s *api.Snap) { s.Nodes[1].Cap[api.Cpu] = most },
		"requests": func(s *api.Snap) { s.Pods[0].Req[api.Mem], s.Pods[1].Req[api.Mem] = most, 1 },
	} {
		s := full()
		change(&s)
		for _, p := range [][]int{{0, 0, wait}, {wait, wait, wait}, {9, 9, 9}, nil} {
			checkNothing(t, what, s, p, api.ErrOver)
		}
		checkOrder(t, s, []int{0, 1, 2})
	}
}
