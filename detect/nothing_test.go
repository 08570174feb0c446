package detect_test

import (
	"slices"
	"testing"

	"drayage/api"
	"drayage/detect"
	"drayage/place"
	"drayage/policy"
)

// full makes a cluster with a node that is lost (1) and one that is cordoned (2), and a policy, by which each pod on n0 or n2 is to go.
func full() (api.Snap, api.Goal) {
	s := zones([]string{"x", "x", "y"}, "o", "o", "")
	s.Nodes[1].Lost, s.Nodes[2].Cordon = true, true
	s.Nodes[0].Taints = pairs("gpu", "1", "old", "1")
	s.Pods[0].Where, s.Pods[0].Bears, s.Pods[0].Labels = is("zone", "y"), pairs("gpu", "*"), pairs("app", "web")
	s.Pods[1].With, s.Pods[2].Apart = api.Near{Topo: "zone", Terms: is("app", "no")}, api.Near{Topo: "zone", Terms: is("app", "web")}
	s.Owners = []api.Owner{{Name: "o", Min: 1, Topo: "zone", Skew: 1, Single: true}}
	g := api.Goal{Low: [2]int{100, 100}, High: [2]int{900, 900}, On: api.OnAll, Drain: []string{"n0", "n2"}, MaxMoves: 48, Tries: 8, Rollback: true}
	return s, g
}

// checkNothing asks that nothing is told of what may not be, and that it is not fine.
func checkNothing(t *testing.T, what string, s api.Snap, p []int, g api.Goal) {
	t.Helper()
	if place.Check(s, p) == api.OK && policy.Check(g) == api.OK {
		t.Errorf("%s: %v, %v may be", what, p, g)
	}
	for pod := -1; pod <= len(p) && pod < 30; pod++ {
		if why := detect.Why(s, p, g, pod); why != 0 {
			t.Errorf("%s: Why(%v, %d): %d", what, p, pod, why)
		}
	}
	if l := detect.Pods(s, p, g); len(l) != 0 {
		t.Errorf("%s: Pods(%v): %v", what, p, l)
	}
	if detect.Fine(s, p, g) {
		t.Errorf("%s: %v is fine", what, p)
	}
}

// TestNoPlacement (P13.1): as many numbers as pods, each Nowhere or the place of a node that is not lost; else nothing.
func TestNoPlacement(t *testing.T) {
	s, g := full()
	checkWhy(t, s, []int{0, 0, 2}, g, 1, 1, 1)
	for _, g := range []api.Goal{g, {}} {
		checkNothing(t, "none", s, nil, g)
		checkNothing(t, "one too few", s, []int{0, 0}, g)
		checkNothing(t, "one too many", s, []int{0, 0, 2, 0}, g)
		checkNothing(t, "one too many, that waits", s, []int{0, 0, 2, wait}, g)
		checkNothing(t, "far too many", s, make([]int, 100000), g)
		checkNothing(t, "one, of nothing", api.Snap{}, []int{wait}, g)
		for pod := range s.Pods {
			for _, node := range append(far(len(s.Nodes)), 1) {
				p := []int{0, 0, 2}
				if p[pod] = node; node != wait {
					checkNothing(t, "on no node", s, p, g)
				}
			}
		}
	}
}

// TestNoCluster (P13.1): of one that may not be nothing.
func TestNoCluster(t *testing.T) {
	for what, change := range map[string]func(s *api.Snap){
		"nodes that fall":          func(s *api.Snap) { slices.Reverse(s.Nodes) },
		"a node twice":             func(s *api.Snap) { s.Nodes[1].Name = "n0" },
		"too many nodes":           func(s *api.Snap) { s.Nodes = slices.Repeat(s.Nodes, 3) },
		"a pod without a name":     func(s *api.Snap) { s.Pods[0].Name = "" },
		"an owner that is none":    func(s *api.Snap) { s.Pods[1].Owner = "x" },
		"a pod on a lost node":     func(s *api.Snap) { s.Pods[2].On = "n1" },
		"a request below 0":        func(s *api.Snap) { s.Pods[2].Req[api.Extra] = -1 },
		"a key twice":              func(s *api.Snap) { s.Nodes[2].Labels = pairs("zone", "x", "zone", "y") },
		"a skew of 0":              func(s *api.Snap) { s.Owners[0].Skew = 0 },
		"caps that go too far":     func(s *api.Snap) { s.Nodes[1].Cap[api.Cpu] = most },
		"requests that go too far": func(s *api.Snap) { s.Pods[0].Req[api.Mem], s.Pods[1].Req[api.Mem] = most, 1 },
	} {
		s, g := full()
		change(&s)
		for _, p := range [][]int{{0, 0, 2}, {0, 2, wait}, {wait, wait, wait}, {1, 1, 1}, nil} {
			checkNothing(t, what, s, p, g)
			checkNothing(t, what, s, p, api.Goal{})
		}
	}
}

// TestNoPolicy (P13.1): of one that may not be nothing, not even what hangs on no policy.
func TestNoPolicy(t *testing.T) {
	for what, change := range map[string]func(g *api.Goal){
		"low above high":          func(g *api.Goal) { g.Low[0] = 901 },
		"low below 0":             func(g *api.Goal) { g.Low[1] = -1 },
		"high above 1000":         func(g *api.Goal) { g.High[1] = 1001 },
		"on a bit too many":       func(g *api.Goal) { g.On = api.OnAll + 1 },
		"on below 0":              func(g *api.Goal) { g.On = -1 },
		"drains that fall":        func(g *api.Goal) { g.Drain = []string{"n2", "n0"} },
		"a drain that is no name": func(g *api.Goal) { g.Drain = []string{"", "n0"} },
		"too many drains":         func(g *api.Goal) { g.Drain = make([]string, 9) },
		"moves 49":                func(g *api.Goal) { g.MaxMoves = 49 },
		"tries 9":                 func(g *api.Goal) { g.Tries = 9 },
	} {
		s, g := full()
		change(&g)
		for _, p := range [][]int{{0, 0, 2}, {wait, wait, wait}} {
			checkNothing(t, what, s, p, g)
		}
		checkNothing(t, what, api.Snap{}, nil, g)
	}
}

// TestRestOfPolicy (P13.1): what a policy says of moves and tries is nothing to who is to go.
func TestRestOfPolicy(t *testing.T) {
	s, g := full()
	g.Drain = nil
	for _, moves := range []int{0, 1, api.MaxMoves} {
		for _, tries := range []int{0, api.MaxTries} {
			g.MaxMoves, g.Tries, g.Rollback = moves, tries, tries == 0
			checkWhy(t, s, []int{0, 2, 0}, g, 2, 3, 2)
			checkWhy(t, s, []int{2, wait, 2}, g, 7, 0, 3)
		}
	}
}
