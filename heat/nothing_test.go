package heat_test

import (
	"slices"
	"testing"

	"drayage/api"
	"drayage/heat"
	"drayage/place"
	"drayage/policy"
)

// checkNothing asks that nothing is told of a placement that may not be.
func checkNothing(t *testing.T, what string, s api.Snap, p []int) {
	t.Helper()
	if e := place.Check(s, p); e == api.OK {
		t.Errorf("%s: %v may be", what, p)
	}
	for node := -1; node <= len(s.Nodes); node++ {
		if x := heat.Share(s, p, node); x != [2]int{} {
			t.Errorf("%s: Share(%v, %d): %v", what, p, node, x)
		}
		if l := heat.Pods(s, p, node); len(l) != 0 {
			t.Errorf("%s: Pods(%v, %d): %v", what, p, node, l)
		}
	}
	l, h, idle := heat.Low(s, p, low(1000, 1000)), heat.High(s, p, high(1, 1)), heat.Idle(s, p)
	if len(l) != 0 || len(h) != 0 || len(idle) != 0 {
		t.Errorf("%s: %v is low, %v high, %v idle at %v", what, l, h, idle, p)
	}
}

// TestNoPlacement (P12.1, P12.2): as many numbers as pods, each Nowhere or the place of a node that is not lost; else nothing.
func TestNoPlacement(t *testing.T) {
	s := full()
	checkNothing(t, "none", s, nil)
	checkNothing(t, "one too few", s, []int{0, 1, 1, 1})
	checkNothing(t, "one too many", s, []int{0, 1, 1, 1, 1, 1})
	checkNothing(t, "one too many, that waits", s, []int{0, 1, 1, 1, 1, wait})
	checkNothing(t, "far too many", s, make([]int, 100000))
	checkNothing(t, "one, of nothing", api.Snap{}, []int{wait})
	for pod := range s.Pods {
		for _, node := range append(far(len(s.Nodes)), 2, 3) {
			p := []int{0, 1, 1, 1, 1}
			if p[pod] = node; node != wait {
				checkNothing(t, "on no node", s, p)
			}
		}
	}
}

// TestNoCluster (P12.1, P12.2): of one that may not be nothing, be it seen in what is asked for or not.
func TestNoCluster(t *testing.T) {
	for what, change := range map[string]func(s *api.Snap){
		"nodes that fall":             func(s *api.Snap) { slices.Reverse(s.Nodes[4:]) },
		"a node twice":                func(s *api.Snap) { s.Nodes[1].Name = "n0" },
		"too many nodes":              func(s *api.Snap) { s.Nodes = slices.Repeat(s.Nodes, 2) },
		"a pod without a name":        func(s *api.Snap) { s.Pods[0].Name = "" },
		"an owner that is none":       func(s *api.Snap) { s.Pods[1].Owner = "x" },
		"a pod on a lost node":        func(s *api.Snap) { s.Pods[4].On = "n2" },
		"a request below 0":           func(s *api.Snap) { s.Pods[2].Req[api.Cpu] = -1 },
		"another request below 0":     func(s *api.Snap) { s.Pods[2].Req[api.Extra] = -1 },
		"a cap below 0":               func(s *api.Snap) { s.Nodes[0].Cap[api.Mem] = -1 },
		"a cap that is too much":      func(s *api.Snap) { s.Nodes[3].Cap[api.Mem] = most + 1 },
		"caps that go too far":        func(s *api.Snap) { s.Nodes[0].Cap[api.Cpu] = most },
		"requests that go too far":    func(s *api.Snap) { s.Pods[4].Req[api.Cpu] = most },
		"others that go too far":      func(s *api.Snap) { s.Pods[3].Req[api.Slots] = most },
		"an owner's min that is none": func(s *api.Snap) { s.Owners[0].Min = 25 },
	} {
		s := full()
		change(&s)
		for _, p := range [][]int{{0, 1, 1, 4, wait}, {0, 0, 0, 0, 0}, {wait, wait, wait, wait, wait}, {2, 2, 2, 2, 2}, nil} {
			checkNothing(t, what, s, p)
		}
	}
}

// TestNoPolicy (P12.2): of one that may not be no node is low, or high.
func TestNoPolicy(t *testing.T) {
	s, p := full(), []int{0, 1, wait, 4, wait} // shares: 100 200, 300 1, none, none, 0 100, none
	usual := api.Goal{Low: [2]int{101, 201}, High: [2]int{299, 1000}, On: api.OnAll, Drain: []string{"n0", "n4"}, MaxMoves: 48, Tries: 8, Rollback: true}
	checkLow(t, s, p, usual, 0, 4)
	checkHigh(t, s, p, usual, 1)
	for what, change := range map[string]func(g *api.Goal){
		"low above high, of cpu":    func(g *api.Goal) { g.Low[0] = 300 },
		"low above high, of memory": func(g *api.Goal) { g.Low[1] = 1001 },
		"low without high":          func(g *api.Goal) { g.High = [2]int{} },
		"low below 0":               func(g *api.Goal) { g.Low[1] = -1 },
		"high below 0":              func(g *api.Goal) { g.Low[1], g.High[1] = 0, -1 },
		"high above 1000":           func(g *api.Goal) { g.High[1] = 1001 },
		"on a bit too many":         func(g *api.Goal) { g.On = api.OnAll + 1 },
		"on below 0":                func(g *api.Goal) { g.On = -1 },
		"drains that fall":          func(g *api.Goal) { g.Drain = []string{"n4", "n0"} },
		"a drain that is no name":   func(g *api.Goal) { g.Drain = []string{""} },
		"too many drains":           func(g *api.Goal) { g.Drain = make([]string, 9) },
		"moves 49":                  func(g *api.Goal) { g.MaxMoves = 49 },
		"tries 9":                   func(g *api.Goal) { g.Tries = 9 },
	} {
		g := usual
		change(&g)
		if e := policy.Check(g); e == api.OK {
			t.Errorf("%s: %v may be", what, g)
		}
		checkLow(t, s, p, g)
		checkHigh(t, s, p, g)
	}
	checkLow(t, example(), []int{0, 1}, api.Goal{Low: [2]int{400, 400}}) // above its High
}

// TestRestOfPolicy (P12.2): what a policy says beside Low and High is nothing to how full nodes are.
func TestRestOfPolicy(t *testing.T) {
	s, p := full(), []int{0, 1, wait, 4, wait}
	for _, change := range []func(g *api.Goal){
		func(g *api.Goal) { g.On = api.OnAll },
		func(g *api.Goal) { g.On = 0 },
		func(g *api.Goal) { g.Drain = []string{"n0", "n1", "n4"} },
		func(g *api.Goal) { g.MaxMoves, g.Tries, g.Rollback = 48, 8, true },
	} {
		g := api.Goal{Low: [2]int{101, 201}, High: [2]int{299, 1000}, On: api.OnSpread}
		change(&g)
		checkLow(t, s, p, g, 0, 4)
		checkHigh(t, s, p, g, 1)
	}
}
