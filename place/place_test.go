package place_test

import (
	"math"
	"slices"
	"strings"
	"testing"

	"drayage/api"
	"drayage/place"
)

const (
	most      = api.MaxQty
	letters15 = "abcdefghijklmno"
	wait      = api.Nowhere
)

// pairs makes labels of keys and values that alternate.
func pairs(words ...string) (l []api.Label) {
	for i := 0; i < len(words); i += 2 {
		l = append(l, api.Label{Key: words[i], Value: words[i+1]})
	}
	return l
}

// example makes the cluster of the chapter's examples.
func example() api.Snap {
	return api.Snap{
		Nodes:  []api.Node{{Name: "a", Labels: pairs("zone", "x")}, {Name: "b", Labels: pairs("zone", "y")}, {Name: "c"}},
		Pods:   []api.Pod{{Name: "p", Owner: "o", Req: api.Vec{10}}, {Name: "q", Owner: "o", Req: api.Vec{10}}, {Name: "r", Owner: "o", Req: api.Vec{10}}},
		Owners: []api.Owner{{Name: "o", Topo: "zone", Skew: 1}},
	}
}

// full makes one with a node that is lost (1), one that is cordoned (2), pods without an owner (2, 5), and owners with a key, without one, and without pods.
func full() api.Snap {
	return api.Snap{
		Nodes: []api.Node{
			{Name: "n0", Labels: pairs("disk", "ssd", "zone", "x"), Taints: pairs("gpu", "1")},
			{Name: "n1", Labels: pairs("zone", "l"), Lost: true},
			{Name: "n2", Labels: pairs("zone", "b"), Cordon: true},
			{Name: "n3", Labels: pairs("disk", "hdd")},
			{Name: "n4", Labels: pairs("disk", "ssd", "zone", "x")},
		},
		Pods: []api.Pod{
			{Name: "p0", Owner: "web", Req: api.Vec{1, 10, 100, 1000, 10000}, Labels: pairs("zone", "pod")},
			{Name: "p1", Owner: "web", Req: api.Vec{2}, On: "n4"},
			{Name: "p2", Req: api.Vec{4, 0, 0, 0, 3}},
			{Name: "p3", Owner: "db", Req: api.Vec{8}},
			{Name: "p4", Owner: "web", Req: api.Vec{16, 0, 5}},
			{Name: "p5"},
		},
		Owners: []api.Owner{
			{Name: "db"},
			{Name: "lone", Topo: "rack", Skew: 24},
			{Name: "web", Topo: "zone", Skew: 1},
		},
	}
}

// notOnes are clusters that may not be, by what is wrong, with snap.Check's error.
func notOnes() map[string]func() (api.Snap, api.Errno) {
	changed := func(e api.Errno, change func(s *api.Snap)) func() (api.Snap, api.Errno) {
		return func() (api.Snap, api.Errno) {
			s := full()
			change(&s)
			return s, e
		}
	}
	return map[string]func() (api.Snap, api.Errno){
		"nodes that fall":         changed(api.ErrSnap, func(s *api.Snap) { slices.Reverse(s.Nodes) }),
		"a pod without a name":    changed(api.ErrSnap, func(s *api.Snap) { s.Pods[0].Name = "" }),
		"an owner twice":          changed(api.ErrSnap, func(s *api.Snap) { s.Owners[1].Name = "db" }),
		"an unknown owner":        changed(api.ErrSnap, func(s *api.Snap) { s.Pods[3].Owner = "x" }),
		"a pod on a lost node":    changed(api.ErrSnap, func(s *api.Snap) { s.Pods[3].On = "n1" }),
		"a label without a key":   changed(api.ErrSnap, func(s *api.Snap) { s.Nodes[3].Labels[0].Key = "" }),
		"a label of a lost node":  changed(api.ErrSnap, func(s *api.Snap) { s.Nodes[1].Labels[0].Value = "" }),
		"a key twice":             changed(api.ErrSnap, func(s *api.Snap) { s.Nodes[0].Labels[0].Key = "zone" }),
		"a request below 0":       changed(api.ErrSnap, func(s *api.Snap) { s.Pods[5].Req[2] = -1 }),
		"a skew without a key":    changed(api.ErrSnap, func(s *api.Snap) { s.Owners[0].Skew = 1 }),
		"caps that go too far":    changed(api.ErrOver, func(s *api.Snap) { s.Nodes[0].Cap[4], s.Nodes[1].Cap[4] = most, 1 }),
		"requests that go so far": changed(api.ErrOver, func(s *api.Snap) { s.Pods[1].Req[0] = most }),
	}
}

// far are numbers that are no places of anything.
func far(count int) []int {
	return []int{count, count + 1, -1, -2, math.MaxInt, math.MinInt, math.MaxInt32, 1 << 32}
}

func checkIs(t *testing.T, what string, s api.Snap, p []int, want api.Errno) {
	t.Helper()
	if e := place.Check(s, p); e != want {
		t.Errorf("%s: Check(%v): %d, not %d", what, p, e, want)
	}
	if want != api.OK {
		checkNothing(t, what, s, p)
	}
}

// checkNothing asks that nothing is told of a placement that may not be.
func checkNothing(t *testing.T, what string, s api.Snap, p []int) {
	t.Helper()
	for i := -1; i < 6; i++ {
		if u := place.Used(s, p, i); u != (api.Vec{}) {
			t.Errorf("%s: Used(%v, %d): %v", what, p, i, u)
		}
		if l := place.Counts(s, p, i); len(l) != 0 {
			t.Errorf("%s: Counts(%v, %d): %v", what, p, i, l)
		}
		if l := place.Spread(s, p, i); len(l) != 0 {
			t.Errorf("%s: Spread(%v, %d): %v", what, p, i, l)
		}
		if n := place.Placed(s, p, i); n != 0 {
			t.Errorf("%s: Placed(%v, %d): %d", what, p, i, n)
		}
	}
}

func checkDomain(t *testing.T, s api.Snap, node int, key, want string) {
	t.Helper()
	if value, is := place.Domain(s, node, key); value != want || is != (want != "") {
		t.Errorf("Domain(%d, %q): %q, %t, not %q", node, key, value, is, want)
	}
}

func checkDomains(t *testing.T, s api.Snap, key string, want ...string) {
	t.Helper()
	if l := place.Domains(s, key); !slices.Equal(l, want) {
		t.Errorf("Domains(%q): %q, not %q", key, l, want)
	}
}

// checkOwner asks for all that is told of an owner.
func checkOwner(t *testing.T, s api.Snap, p []int, owner int, counts, spread []int, placed int) {
	t.Helper()
	if l := place.Counts(s, p, owner); !slices.Equal(l, counts) {
		t.Errorf("Counts(%v, %d): %v, not %v", p, owner, l, counts)
	}
	if l := place.Spread(s, p, owner); !slices.Equal(l, spread) {
		t.Errorf("Spread(%v, %d): %v, not %v", p, owner, l, spread)
	}
	if n := place.Placed(s, p, owner); n != placed {
		t.Errorf("Placed(%v, %d): %d, not %d", p, owner, n, placed)
	}
}

// TestExamples holds the chapter's table.
func TestExamples(t *testing.T) {
	s, p := example(), []int{0, 2, wait}
	if u := place.Used(s, []int{0, 0, wait}, 0); u != (api.Vec{20}) {
		t.Errorf("Used: %v", u)
	}
	checkDomains(t, s, "zone", "x", "y")
	checkDomain(t, s, 2, "zone", "")
	checkOwner(t, s, p, 0, []int{1, 0, 1}, []int{1, 0}, 2)
	checkApply(t, s, p, api.Step{Kind: api.StepEvict}, []int{wait, 2, wait}, api.OK)
	checkApply(t, s, p, api.Step{Kind: api.StepBind, Pod: 2, Node: 1}, []int{0, 2, 1}, api.OK)
	checkApply(t, s, p, api.Step{Kind: api.StepEvict, Pod: 2}, nil, api.ErrState)
	checkMoves(t, p, []int{0, 1, 1}, api.Move{Pod: 1, To: 1}, api.Move{Pod: 2, To: 1})
}

// TestCheck (P7.1): as many numbers as pods, each Nowhere or the place of a node that is not lost.
func TestCheck(t *testing.T) {
	s := full()
	checkIs(t, "nothing", api.Snap{}, nil, api.OK)
	checkIs(t, "nothing", api.Snap{}, []int{}, api.OK)
	checkIs(t, "one too many, of nothing", api.Snap{}, []int{wait}, api.ErrArg)
	checkIs(t, "pods without nodes", api.Snap{Pods: s.Pods[5:]}, []int{wait}, api.OK)
	checkIs(t, "a node that there is not", api.Snap{Pods: s.Pods[5:]}, []int{0}, api.ErrArg)
	checkIs(t, "all wait", s, []int{wait, wait, wait, wait, wait, wait}, api.OK)
	checkIs(t, "all on one", s, []int{4, 4, 4, 4, 4, 4}, api.OK)
	checkIs(t, "on a cordoned node", s, []int{2, 2, wait, 2, 0, 3}, api.OK)
	checkIs(t, "none", s, nil, api.ErrArg)
	checkIs(t, "one too few", s, []int{0, 0, 0, 0, 0}, api.ErrArg)
	checkIs(t, "one too many", s, []int{0, 0, 0, 0, 0, 0, 0}, api.ErrArg)
	checkIs(t, "one too many, that waits", s, []int{0, 0, 0, 0, 0, 0, wait}, api.ErrArg)
	checkIs(t, "far too many", s, make([]int, 100000), api.ErrArg)
	for pod := range s.Pods {
		p := make([]int, len(s.Pods))
		p[pod] = 1
		checkIs(t, "on a lost node", s, p, api.ErrArg)
		for _, node := range far(len(s.Nodes)) {
			if p[pod] = node; node != wait {
				checkIs(t, "on no node", s, p, api.ErrArg)
			}
		}
	}
}

// TestNoCluster (P7.1 to P7.3): of a cluster that may not be snap.Check's error, ahead of ErrArg, and nothing else.
func TestNoCluster(t *testing.T) {
	for what, cluster := range notOnes() {
		s, e := cluster()
		for _, p := range [][]int{{0, 2, wait, 3, 4, 0}, {wait, wait, wait, wait, wait, wait}, {0, 0, 0, 0, 0, 1}, {9, 9}, nil} {
			checkIs(t, what, s, p, e)
		}
		for _, key := range []string{"zone", "disk", ""} {
			checkDomains(t, s, key)
			for node := -1; node < 6; node++ {
				checkDomain(t, s, node, key, "")
			}
		}
	}
}

// TestAllPlacements (P7.1): of two nodes, one more that is lost, and three pods, all rows of numbers.
func TestAllPlacements(t *testing.T) {
	s := example()
	s.Nodes[1].Lost = true
	eachRow(3, -3, 4, func(p []int) {
		want := api.OK
		for _, node := range p {
			if node != -1 && node != 0 && node != 2 {
				want = api.ErrArg
			}
		}
		checkIs(t, "all placements", s, p, want)
	})
}

// eachRow goes through all rows of so many numbers from low to high.
func eachRow(count, low, high int, f func(p []int)) {
	p := slices.Repeat([]int{low}, count)
	for i := 0; i < count; {
		f(slices.Clone(p))
		for i = 0; i < count; i++ {
			if p[i]++; p[i] <= high {
				break
			}
			p[i] = low
		}
	}
}

// TestUsed (P7.1): of each node the sum of its pods, wherever the cluster says that they are.
func TestUsed(t *testing.T) {
	s := full()
	for _, x := range []struct {
		p    []int
		want []api.Vec
	}{
		{[]int{0, 2, wait, 3, 4, 0}, []api.Vec{{1, 10, 100, 1000, 10000}, {}, {2}, {8}, {16, 0, 5}}},
		{[]int{4, 4, 4, 4, 4, 4}, []api.Vec{{}, {}, {}, {}, {31, 10, 105, 1000, 10003}}},
		{[]int{wait, wait, wait, wait, wait, wait}, make([]api.Vec, 5)},
		{[]int{wait, wait, 0, wait, 0, 0}, []api.Vec{{20, 0, 5, 0, 3}, {}, {}, {}, {}}},
	} {
		for node, want := range x.want {
			if u := place.Used(s, x.p, node); u != want {
				t.Errorf("Used(%v, %d): %v, not %v", x.p, node, u, want)
			}
		}
		for _, node := range far(len(s.Nodes)) {
			if u := place.Used(s, x.p, node); u != (api.Vec{}) {
				t.Errorf("Used(%v, %d), of no node: %v", x.p, node, u)
			}
		}
	}
	s.Pods[1].Req, s.Pods[2].Req, s.Pods[3].Req, s.Pods[4].Req = api.Vec{}, api.Vec{0, 0, 0, most - 1000, most - 10000}, api.Vec{most - 1}, api.Vec{}
	want := api.Vec{most, 10, 100, most, most}
	if u := place.Used(s, []int{0, 0, 0, 0, 0, 0}, 0); u != want {
		t.Errorf("Used of as much as there may be: %v, not %v", u, want)
	}
}

// TestDomain (P7.2): the node's own label of that key; none of a lost node, of none, of an empty key.
func TestDomain(t *testing.T) {
	s := full()
	for key, want := range map[string][]string{
		"zone":          {"x", "", "b", "", "x"},
		"disk":          {"ssd", "", "", "hdd", "ssd"},
		"gpu":           {"", "", "", "", ""}, // a taint is no label
		"":              {"", "", "", "", ""},
		"Zone":          {"", "", "", "", ""},
		"zon":           {"", "", "", "", ""},
		"zone ":         {"", "", "", "", ""},
		"x":             {"", "", "", "", ""},
		"\xff\x00":      {"", "", "", "", ""},
		letters15 + "p": {"", "", "", "", ""},
	} {
		for node, value := range want {
			checkDomain(t, s, node, key, value)
		}
		for _, node := range far(len(s.Nodes)) {
			checkDomain(t, s, node, key, "")
		}
	}
	checkDomain(t, api.Snap{}, 0, "zone", "")
	s.Nodes[1].Lost = false
	checkDomain(t, s, 1, "zone", "l")
}

// TestDomains (P7.2): values of nodes that are not lost, rising, each once.
func TestDomains(t *testing.T) {
	s := full()
	checkDomains(t, s, "zone", "b", "x")
	checkDomains(t, s, "disk", "hdd", "ssd")
	for _, key := range []string{"", "gpu", "Zone", "rack", "x", strings.Repeat("z", 1<<20)} {
		checkDomains(t, s, key)
	}
	checkDomains(t, api.Snap{}, "zone")
	s.Nodes[1].Lost = false
	checkDomains(t, s, "zone", "b", "l", "x")
	for i := range s.Nodes {
		s.Nodes[i].Lost = true
	}
	checkDomains(t, s, "zone")
	var many api.Snap
	for i, value := range []string{"x", "x-9", "b", "-", "10", "x", "9", letters15} {
		many.Nodes = append(many.Nodes, api.Node{Name: string(rune('a' + i)), Labels: pairs("k", value)})
	}
	checkDomains(t, many, "k", "-", "10", "9", letters15, "b", "x", "x-9")
}

// TestOwners (P7.3): by nodes, by domains, in all; nothing unless there is the owner.
func TestOwners(t *testing.T) {
	s := full()
	p := []int{0, 2, wait, 3, 4, 0}
	checkOwner(t, s, p, 0, []int{0, 0, 0, 1, 0}, nil, 1) // no key
	checkOwner(t, s, p, 1, []int{0, 0, 0, 0, 0}, nil, 0) // no pods, and no node has the key
	checkOwner(t, s, p, 2, []int{1, 0, 1, 0, 1}, []int{1, 2}, 3)
	for _, owner := range far(len(s.Owners)) {
		checkOwner(t, s, p, owner, nil, nil, 0)
	}
	for _, x := range []struct {
		p, counts, spread []int
		placed            int
	}{
		{[]int{wait, wait, wait, wait, wait, wait}, []int{0, 0, 0, 0, 0}, []int{0, 0}, 0},
		{[]int{wait, wait, 0, 4, wait, 2}, []int{0, 0, 0, 0, 0}, []int{0, 0}, 0}, // others' pods
		{[]int{3, 3, 3, 3, 3, 3}, []int{0, 0, 0, 3, 0}, []int{0, 0}, 3},          // on a node that has no domain
		{[]int{2, 3, 0, 0, wait, 0}, []int{0, 0, 1, 1, 0}, []int{1, 0}, 2},
		{[]int{0, 0, wait, wait, 4, wait}, []int{2, 0, 0, 0, 1}, []int{0, 3}, 3},
	} {
		checkOwner(t, s, x.p, 2, x.counts, x.spread, x.placed)
	}
	checkOwner(t, api.Snap{}, nil, 0, nil, nil, 0)
	checkOwner(t, api.Snap{Owners: s.Owners}, nil, 2, nil, nil, 0)
	s.Nodes[1].Lost = false
	checkOwner(t, s, []int{1, 1, 0, 0, 2, 0}, 2, []int{0, 2, 1, 0, 0}, []int{1, 2, 0}, 3)
	s.Owners[0].Topo, s.Owners[0].Skew = "zone", 1
	checkOwner(t, s, []int{1, 1, 0, 0, 2, 0}, 0, []int{1, 0, 0, 0, 0}, []int{0, 0, 1}, 1)
}
