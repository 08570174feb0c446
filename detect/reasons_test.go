package detect_test

import (
	"testing"

	"drayage/api"
)

// bits are all that a policy may look for.
var bits = [...]int{api.OnDouble, api.OnWith, api.OnTaint, api.OnSpread, api.OnEmpty}

// checkOnly asks why each pod is to go with only that bit on, with all, and that none is with all the others.
func checkOnly(t *testing.T, s api.Snap, p []int, bit int, want ...int) {
	t.Helper()
	checkWhy(t, s, p, on(bit), want...)
	checkWhy(t, s, p, on(api.OnAll), want...)
	checkWhy(t, s, p, on(api.OnAll&^bit), make([]int, len(p))...)
}

// TestDrain (P13.1): its node is one of Drain, whatever is on; names of nodes that there are not drain nothing.
func TestDrain(t *testing.T) {
	s := zones([]string{"x", "x", "x"}, "", "", "")
	s.Nodes[1].Cordon = true
	checkWhy(t, s, []int{0, 1, 2}, drain("n1"), 0, 1, 0)
	checkWhy(t, s, []int{0, 1, 2}, drain("n0", "n2"), 1, 0, 1)
	checkWhy(t, s, []int{0, wait, 0}, drain("n0"), 1, 0, 1)
	checkWhy(t, s, []int{0, 1, 2}, drain("n", "n00", "n3", "x"), 0, 0, 0)
	checkWhy(t, s, []int{0, 1, 2}, drain(), 0, 0, 0) // a cordon alone drives none away
	for _, bit := range bits {
		checkWhy(t, s, []int{0, 1, 2}, api.Goal{On: bit, Drain: []string{"n1"}}, 0, 1, 0)
	}
	s.Nodes[1].Cordon, s.Nodes[1].Lost = false, true
	checkWhy(t, s, []int{0, wait, 2}, drain("n1", "n2"), 0, 0, 1)
}

// TestWhere (P13.1): a pod whose terms do not hold on its node is to go, whatever is on.
func TestWhere(t *testing.T) {
	s := zones([]string{"x", "y", ""}, "", "", "")
	for pod := range s.Pods {
		s.Pods[pod].Where = is("zone", "x")
	}
	for bits := range api.OnAll + 1 {
		checkWhy(t, s, []int{0, 1, 2}, on(bits), 0, 2, 2)
		checkWhy(t, s, []int{wait, 1, 0}, on(bits), 0, 2, 0)
	}
}

// TestTaint (P13.1): one that does not bear all taints of its node is to go, if that is on.
func TestTaint(t *testing.T) {
	s := zones([]string{"x", "y"}, "", "", "")
	s.Nodes[0].Taints = pairs("gpu", "1", "old", "1")
	s.Pods[0].Bears = pairs("gpu", "1")
	s.Pods[1].Bears = pairs("gpu", "*", "old", "1")
	checkOnly(t, s, []int{0, 0, 0}, api.OnTaint, 2, 0, 2)
	checkOnly(t, s, []int{1, 1, 1}, api.OnTaint, 0, 0, 0)
	checkOnly(t, s, []int{1, 0, wait}, api.OnTaint, 0, 0, 0)
}

// TestNear (P13.1): one that misses somebody near, or has somebody whom it may not, is to go, if that is on.
func TestNear(t *testing.T) {
	s := zones([]string{"x", "x", "y", ""}, "", "", "")
	s.Pods[0].Labels = pairs("app", "web")
	s.Pods[1].With = api.Near{Topo: "zone", Terms: is("app", "web")}
	s.Pods[2].Apart = api.Near{Topo: "zone", Terms: is("app", "web")}
	checkOnly(t, s, []int{0, 1, 2}, api.OnWith, 0, 0, 0)
	checkOnly(t, s, []int{0, 2, 2}, api.OnWith, 0, 3, 0)
	checkOnly(t, s, []int{0, 1, 1}, api.OnWith, 0, 0, 3)
	checkOnly(t, s, []int{2, 1, 2}, api.OnWith, 0, 3, 3)
	checkOnly(t, s, []int{3, 3, 3}, api.OnWith, 0, 3, 0) // nobody is near without a domain
	checkOnly(t, s, []int{wait, 0, 0}, api.OnWith, 0, 3, 0)
	checkOnly(t, s, []int{0, wait, wait}, api.OnWith, 0, 0, 0)
}

// TestDouble (P13.1): each of several of a single owner on one node is to go, if that is on.
func TestDouble(t *testing.T) {
	s := zones([]string{"x", "x"}, "many", "one", "one", "one", "many", "")
	s.Owners = []api.Owner{{Name: "many"}, {Name: "one", Single: true}}
	checkOnly(t, s, []int{0, 0, 0, 1, 0, 0}, api.OnDouble, 0, 4, 4, 0, 0, 0)
	checkOnly(t, s, []int{0, 0, 0, 0, 0, 0}, api.OnDouble, 0, 4, 4, 4, 0, 0)
	checkOnly(t, s, []int{0, 0, 1, wait, 0, 0}, api.OnDouble, 0, 0, 0, 0, 0, 0)
	checkOnly(t, s, []int{0, wait, wait, wait, 0, 0}, api.OnDouble, 0, 0, 0, 0, 0, 0)
}

// TestSpread (P13.1): those are to go that are in a domain with as many of their owner as any, if the owner's skew is too great, and that is on.
func TestSpread(t *testing.T) {
	s := zones([]string{"x", "y", "x", "z", ""}, "o", "o", "o", "o", "o", "other", "")
	s.Owners = []api.Owner{{Name: "o", Topo: "zone", Skew: 1}, {Name: "other", Topo: "zone", Skew: 1}}
	check := func(p []int, want ...int) {
		t.Helper()
		checkOnly(t, s, p, api.OnSpread, want...)
	}
	check([]int{0, 2, 1, wait, wait, 0, 0}, 5, 5, 0, 0, 0, 0, 0)     // 2 1 0: two nodes of one domain
	check([]int{0, 0, 1, 3, wait, 0, 0}, 0, 0, 0, 0, 0, 0, 0)        // 2 1 1: not too great
	check([]int{0, 2, 1, 1, wait, 1, 1}, 5, 5, 5, 5, 0, 0, 0)        // 2 2 0: either has as many as any
	check([]int{3, 3, 3, 1, 0, 3, 3}, 5, 5, 5, 0, 0, 0, 0)           // 1 1 3
	check([]int{0, 0, 1, 3, 3, 1, 1}, 0, 0, 0, 0, 0, 0, 0)           // 2 1 2
	check([]int{4, 4, 4, 4, 0, 4, 4}, 0, 0, 0, 0, 0, 0, 0)           // 1 0 0, and four in no domain
	check([]int{4, 4, 4, 1, 1, 1, 1}, 0, 0, 0, 5, 5, 0, 0)           // 0 2 0: those in none have more, and stay
	check([]int{0, 0, 0, 1, 1, wait, wait}, 5, 5, 5, 0, 0, 0, 0)     // 3 2 0: the second one stays
	check([]int{wait, wait, wait, wait, 0, 0, 0}, make([]int, 7)...) // each owner has one
	check([]int{wait, wait, wait, wait, wait, 0, 0}, make([]int, 7)...)
	s.Owners[0].Skew = 2
	check([]int{0, 2, 1, wait, wait, 0, 0}, make([]int, 7)...)
	check([]int{0, 2, 0, wait, wait, 0, 0}, 5, 5, 5, 0, 0, 0, 0)
	s.Owners[0].Skew, s.Nodes[3].Lost = 1, true // its domain is none any more
	check([]int{0, 2, 1, wait, wait, 0, 0}, make([]int, 7)...)
	check([]int{0, 2, 2, 1, wait, 0, 0}, 5, 5, 5, 0, 0, 0, 0)
	s.Owners[0].Topo = "rack" // there is no domain
	check([]int{0, 2, 2, 2, 0, 0, 0}, make([]int, 7)...)
	s.Owners[0].Topo, s.Owners[0].Skew = "", 0
	check([]int{0, 2, 2, 2, 0, 0, 0}, make([]int, 7)...)
}

// TestSpreadOfEach (P13.1): each owner's own key, pods and skew count.
func TestSpreadOfEach(t *testing.T) {
	s := zones([]string{"x", "x", "y"}, "a", "a", "b", "b", "c", "c")
	for node := range s.Nodes {
		s.Nodes[node].Labels = append(pairs("host", s.Nodes[node].Name), s.Nodes[node].Labels...)
	}
	s.Owners = []api.Owner{{Name: "a", Topo: "zone", Skew: 1}, {Name: "b", Topo: "host", Skew: 1}, {Name: "c", Topo: "zone", Skew: 2}}
	checkOnly(t, s, []int{0, 1, 0, 1, 0, 1}, api.OnSpread, 5, 5, 0, 0, 0, 0)
	checkOnly(t, s, []int{0, 2, 0, 0, 1, 1}, api.OnSpread, 0, 0, 5, 5, 0, 0)
	checkOnly(t, s, []int{2, 2, 1, 1, 2, 2}, api.OnSpread, 5, 5, 5, 5, 0, 0)
}

// TestHigh (P13.1): all pods of a high node are to go, whatever is on; those with nothing asked for, too.
func TestHigh(t *testing.T) {
	s := zones([]string{"x", "y"}, "", "", "")
	s.Pods[0].Req, s.Pods[1].Req = api.Vec{400, 100}, api.Vec{100, 400}
	high := func(cpu, mem, bits int) api.Goal { return api.Goal{High: [2]int{cpu, mem}, On: bits} }
	for bits := range api.OnAll + 1 {
		checkWhy(t, s, []int{0, 1, 0}, high(399, 1000, bits), 6, 0, 6)
		checkWhy(t, s, []int{0, 1, 0}, high(400, 1000, bits), 0, 0, 0)
		checkWhy(t, s, []int{0, 1, 1}, high(1000, 399, bits), 0, 6, 6)
		checkWhy(t, s, []int{0, 1, 1}, high(99, 99, bits), 6, 6, 6)
		checkWhy(t, s, []int{0, 0, wait}, high(499, 0, bits), 6, 6, 0)
		checkWhy(t, s, []int{0, 0, 1}, high(0, 0, bits), 0, 0, 0)
	}
}

// TestLow (P13.1): all pods of a low node are to go, if that is on.
func TestLow(t *testing.T) {
	s := zones([]string{"x", "y"}, "", "", "")
	s.Pods[0].Req, s.Pods[1].Req = api.Vec{400, 100}, api.Vec{100, 400}
	for _, x := range []struct {
		cpu, mem int
		want     []int
	}{
		{401, 101, []int{7, 0, 7}},
		{400, 101, []int{0, 0, 0}},
		{401, 100, []int{0, 0, 0}},
		{101, 401, []int{0, 7, 0}},
		{401, 401, []int{7, 7, 7}},
		{1000, 0, []int{0, 0, 0}},
	} {
		g := api.Goal{Low: [2]int{x.cpu, x.mem}, High: [2]int{1000, 1000}, On: api.OnEmpty}
		checkWhy(t, s, []int{0, 1, 0}, g, x.want...)
		g.On = api.OnAll
		checkWhy(t, s, []int{0, 1, 0}, g, x.want...)
		g.On = api.OnAll &^ api.OnEmpty
		checkWhy(t, s, []int{0, 1, 0}, g, 0, 0, 0)
	}
}
