package repack_test

import (
	"slices"
	"testing"

	"drayage/api"
	"drayage/repack"
)

// full makes a cluster with a node that is lost (1) and one that is cordoned (2), of whose lists none is empty, and a policy with something of all. Where all pods are on n0 some go, and some stay.
func full() (api.Snap, api.Goal) {
	s := zoned(of([]int{100, 100, 100, 40}, []int{30, 20, 10}), "x", "x", "y", "y")
	s.Nodes[1].Lost, s.Nodes[2].Cordon = true, true
	for node := range s.Nodes {
		s.Nodes[node].Taints = pairs("gpu", "1")
	}
	for pod := range s.Pods {
		x := &s.Pods[pod]
		x.Owner, x.Labels, x.Bears, x.Where = "o", pairs("app", "web"), pairs("gpu", "*"), []api.Term{{Kind: api.TermHas, Key: "zone"}}
		x.With, x.Apart = api.Near{Topo: "zone", Terms: is("app", "web")}, api.Near{Topo: "zone", Terms: is("app", "no")}
	}
	s.Owners = []api.Owner{{Name: "o", Min: 1, Topo: "zone", Skew: 3}}
	return s, api.Goal{Low: [2]int{100, 100}, High: [2]int{900, 900}, On: api.OnAll, Drain: []string{"n0", "n1"}, MaxMoves: 7, Tries: 1, Rollback: true}
}

// checkNothing asks what is told of what may not be.
func checkNothing(t *testing.T, what string, s api.Snap, p []int, g api.Goal, e api.Errno) {
	t.Helper()
	if q, stays, is := repack.Target(s, p, g); len(q) != 0 || len(stays) != 0 || is != e {
		t.Errorf("%s: Target(%v): %v, %v, %d, not %d", what, p, q, stays, is, e)
	}
	if l, is := repack.Wishes(s, p, g); len(l) != 0 || is != e {
		t.Errorf("%s: Wishes(%v): %v, %d, not %d", what, p, l, is, e)
	}
	for pod := -1; pod <= 25; pod++ {
		if l := repack.Choices(s, p, g, pod); len(l) != 0 {
			t.Errorf("%s: Choices(%v, %d): %v", what, p, pod, l)
		}
	}
}

// TestFull: of what is handed in below something is told, as long as it may be.
func TestFull(t *testing.T) {
	s, g := full()
	checkChoices(t, s, []int{0, 0, 0}, g, 0, 3)
	checkTarget(t, s, []int{0, 0, 0}, g, []int{3, 0, 3}, api.Wrong{Why: 1, Pod: 1, Node: 0})
}

// TestNoPlacement (P15.1 to P15.3): as many numbers as pods, each Nowhere or the place of a node that is not lost; else nothing, and ErrArg.
func TestNoPlacement(t *testing.T) {
	s, g := full()
	for what, p := range map[string][]int{
		"none":                     nil,
		"one too few":              {0, 0},
		"one too many":             {0, 0, 0, 0},
		"one too many, that waits": {0, 0, 0, wait},
		"far too many":             make([]int, 100000),
	} {
		checkNothing(t, what, s, p, g, api.ErrArg)
		checkNothing(t, what+", and no policy", s, p, api.Goal{}, api.ErrArg)
	}
	checkNothing(t, "one, of nothing", api.Snap{}, []int{wait}, g, api.ErrArg)
	for pod := range s.Pods {
		for _, node := range append(far(len(s.Nodes)), 1) {
			p := []int{0, 0, 0}
			if p[pod] = node; node != wait {
				checkNothing(t, "on no node", s, p, g, api.ErrArg)
			}
		}
	}
}

// TestNoCluster (P15.1 to P15.3): of one that may not be nothing, and its error, ahead of what is wrong with the placement.
func TestNoCluster(t *testing.T) {
	for what, change := range map[string]func(s *api.Snap){
		"nodes that fall":       func(s *api.Snap) { slices.Reverse(s.Nodes) },
		"a node twice":          func(s *api.Snap) { s.Nodes[1].Name = "n0" },
		"too many nodes":        func(s *api.Snap) { s.Nodes = slices.Repeat(s.Nodes, 3) },
		"too many pods":         func(s *api.Snap) { s.Pods = slices.Repeat(s.Pods, 9) },
		"far too many of both":  func(s *api.Snap) { s.Nodes, s.Pods = make([]api.Node, 1000), make([]api.Pod, 100000) },
		"a pod without a name":  func(s *api.Snap) { s.Pods[0].Name = "" },
		"an owner that is none": func(s *api.Snap) { s.Pods[1].Owner = "x" },
		"a pod on a lost node":  func(s *api.Snap) { s.Pods[2].On = "n1" },
		"a request below 0":     func(s *api.Snap) { s.Pods[2].Req[api.Extra] = -1 },
		"a request too great":   func(s *api.Snap) { s.Pods[2].Req[api.Extra] = most + 1 },
		"a cap below 0":         func(s *api.Snap) { s.Nodes[3].Cap[api.Mem] = -100 },
		"a key twice":           func(s *api.Snap) { s.Nodes[2].Labels = pairs("zone", "x", "zone", "y") },
		"a skew of 0":           func(s *api.Snap) { s.Owners[0].Skew = 0 },
	} {
		s, g := full()
		change(&s)
		for _, p := range [][]int{{0, 0, 0}, {wait, wait, wait}, {9, 9, 9}, nil} {
			checkNothing(t, what, s, p, g, api.ErrSnap)
		}
	}
}

// TestTooFar (W1, P15.1 to P15.3): of one whose sums go too far nothing, and ErrOver.
func TestTooFar(t *testing.T) {
	for what, change := range map[string]func(s *api.Snap){
		"caps":     func(s *api.Snap) { s.Nodes[1].Cap[api.Cpu] = most },
		"requests": func(s *api.Snap) { s.Pods[0].Req[api.Mem], s.Pods[1].Req[api.Mem] = most, 1 },
	} {
		s, g := full()
		change(&s)
		for _, p := range [][]int{{0, 0, 0}, {wait, wait, wait}, {9, 9, 9}, nil} {
			checkNothing(t, what, s, p, g, api.ErrOver)
		}
	}
}

// TestNoPolicy (P15.1 to P15.3): of one that may not be nothing, and ErrGoal, ahead of what is wrong with cluster and placement.
func TestNoPolicy(t *testing.T) {
	for what, change := range map[string]func(g *api.Goal){
		"a Low above its High": func(g *api.Goal) { g.Low[api.Mem] = 901 },
		"a Low below 0":        func(g *api.Goal) { g.Low[api.Cpu] = -1 },
		"a High above all":     func(g *api.Goal) { g.High[api.Cpu] = 1001 },
		"an On of none":        func(g *api.Goal) { g.On = api.OnAll + 1 },
		"an On below 0":        func(g *api.Goal) { g.On = -1 },
		"a name that is none":  func(g *api.Goal) { g.Drain = []string{"N0"} },
		"names that fall":      func(g *api.Goal) { g.Drain = []string{"n1", "n0"} },
		"a name twice":         func(g *api.Goal) { g.Drain = []string{"n0", "n0"} },
		"far too many names":   func(g *api.Goal) { g.Drain = make([]string, 100000) },
		"too many moves":       func(g *api.Goal) { g.MaxMoves = api.MaxMoves + 1 },
		"moves below 0":        func(g *api.Goal) { g.MaxMoves = -1 },
		"too many tries":       func(g *api.Goal) { g.Tries = api.MaxTries + 1 },
		"tries below 0":        func(g *api.Goal) { g.Tries = -1 },
	} {
		s, g := full()
		change(&g)
		none := s
		none.Nodes = s.Nodes[1:2:2]
		for _, s := range []api.Snap{s, none, {}, {Nodes: s.Nodes[:1], Pods: slices.Repeat(s.Pods, 9)}} {
			for _, p := range [][]int{{0, 0, 0}, {wait, wait, wait}, {9, 9, 9}, nil} {
				checkNothing(t, what, s, p, g, api.ErrGoal)
			}
		}
	}
}
