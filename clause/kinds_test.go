package clause_test

import (
	"testing"

	"drayage/api"
)

// podsOf makes a cluster of nodes, and of so many pods, each made by a function.
func podsOf(nodes []api.Node, count int, made func(pod int) api.Pod) api.Snap {
	s := api.Snap{Nodes: nodes}
	for i := range nodes {
		s.Nodes[i].Name = string(rune('a' + i))
	}
	for i := range count {
		pod := made(i)
		pod.Name = string(rune('a' + i))
		s.Pods = append(s.Pods, pod)
	}
	return s
}

// TestCap (P8.1): each quantity for itself, from just enough on, up to the greatest.
func TestCap(t *testing.T) {
	for quantity := range api.Kinds {
		s := podsOf(make([]api.Node, 2), 3, func(pod int) (p api.Pod) {
			p.Req[quantity] = 4 << pod // 4, 8, 16
			return p
		})
		s.Nodes[0].Cap[quantity] = 12
		for _, x := range []struct {
			p        []int
			n0, rest int
		}{
			{[]int{wait, wait, wait}, 0, 0},
			{[]int{0, 0, wait}, 0, 0},
			{[]int{0, wait, 0}, 8, 0},
			{[]int{0, 0, 0}, 16, 0},
			{[]int{0, 1, 1}, 0, 24},
			{[]int{1, 1, 1}, 0, 28},
		} {
			for b := range api.Kinds {
				n0, rest := 0, 0
				if b == quantity {
					n0, rest = x.n0, x.rest
				}
				checkOf(t, s, x.p, capOf, 0, b, n0)
				checkOf(t, s, x.p, capOf, 1, b, rest)
			}
		}
		s.Pods[2].Req[quantity] = most - 12
		checkOf(t, s, []int{0, 0, 0}, capOf, 0, quantity, most-12)
		s.Nodes[0].Cap[quantity] = most
		checkOf(t, s, []int{0, 0, 0}, capOf, 0, quantity, 0)
		s.Nodes[0].Cap[quantity] = most - 1
		checkOf(t, s, []int{0, 0, 0}, capOf, 0, quantity, 1)
	}
}

// TestWhere (P8.1): each term counts, of each kind, the same one twice, too; of the node's labels, not the pod's, nor its taints.
func TestWhere(t *testing.T) {
	nodes := []api.Node{{Labels: pairs("disk", "ssd", "zone", "x")}, {Taints: pairs("disk", "ssd")}, {Labels: pairs("disk", "hdd")}}
	for _, x := range []struct {
		terms []api.Term
		want  []int
	}{
		{nil, []int{0, 0, 0}},
		{[]api.Term{is("disk", "ssd")}, []int{0, 1, 1}},
		{[]api.Term{not("disk", "ssd")}, []int{1, 0, 0}},
		{[]api.Term{has("disk")}, []int{0, 1, 0}},
		{[]api.Term{lacks("disk")}, []int{1, 0, 1}},
		{[]api.Term{has("rack"), is("disk", "hdd"), has("rack")}, []int{3, 3, 2}},
		{[]api.Term{is("disk", "ssd"), not("disk", "ssd"), has("zone"), lacks("zone")}, []int{2, 2, 2}},
		{[]api.Term{has("a"), has("a"), has("a"), has("a"), has("a"), has("a")}, []int{6, 6, 6}},
	} {
		s := podsOf(nodes, 3, func(int) api.Pod { return api.Pod{Where: x.terms, Labels: pairs("rack", "r")} })
		checkAbout(t, s, []int{0, 1, 2}, where, x.want...)
		checkAbout(t, s, []int{2, wait, 0}, where, x.want[2], nothing, x.want[0])
	}
}

// TestTaint (P8.1): each taint that is not borne counts, of the node alone.
func TestTaint(t *testing.T) {
	nodes := []api.Node{{Taints: pairs("gpu", "1", "old", "y", "z", "z")}, {Labels: pairs("gpu", "1")}, {Taints: pairs("gpu", "2")}}
	for _, x := range []struct {
		bears []api.Label
		want  []int
	}{
		{nil, []int{3, 0, 1}},
		{pairs("gpu", "1"), []int{2, 0, 1}},
		{pairs("gpu", "*"), []int{2, 0, 0}},
		{pairs("gpu", "1", "gpu", "2", "z", "z"), []int{1, 0, 0}},
		{pairs("gpu", "3", "old", "*", "z", "*"), []int{1, 0, 1}},
		{pairs("a", "*", "gpu", "*", "old", "y", "z", "z"), []int{0, 0, 0}},
	} {
		s := podsOf(nodes, 3, func(int) api.Pod { return api.Pod{Bears: x.bears, Labels: pairs("gpu", "1")} })
		checkAbout(t, s, []int{0, 1, 2}, taint, x.want...)
		checkAbout(t, s, []int{wait, wait, 0}, taint, nothing, nothing, x.want[0])
	}
}

// zones are nodes: two of the zone x, one of y, one without a zone, and one of x that is lost.
func zones() []api.Node {
	return []api.Node{{Labels: pairs("host", "1", "zone", "x")}, {Labels: pairs("host", "2", "zone", "x")}, {Labels: pairs("zone", "y")}, {Labels: pairs("rack", "x")}, {Labels: pairs("zone", "x"), Lost: true}}
}

// TestWith (P8.1): somebody of the terms is near; itself too, if its node has a domain at all.
func TestWith(t *testing.T) {
	s := podsOf(zones(), 3, func(pod int) api.Pod {
		return []api.Pod{{Labels: pairs("app", "asks"), With: near("zone", is("app", "web"))}, {Labels: pairs("app", "web")}, {Labels: pairs("app", "db"), With: near("zone", is("app", "db"), has("app"))}}[pod]
	})
	for _, x := range []struct{ p, want []int }{
		{[]int{0, 0, wait}, []int{0, nothing, nothing}},
		{[]int{0, 1, 0}, []int{0, nothing, 0}},    // on another node of the zone
		{[]int{0, 2, 2}, []int{1, nothing, 0}},    // in another zone; that one itself is one
		{[]int{0, wait, 3}, []int{1, nothing, 1}}, // it waits; that one itself is one, but its node has no zone
		{[]int{3, 3, 3}, []int{1, nothing, 1}},    // nobody is near a node without a zone
		{[]int{3, 0, 0}, []int{1, nothing, 0}},
		{[]int{wait, 0, wait}, []int{nothing, nothing, nothing}},
	} {
		checkAbout(t, s, x.p, with, x.want...)
	}
	s.Pods[0].With = near("host", is("app", "web"))
	checkAbout(t, s, []int{0, 1, 0}, with, 1, nothing, 0)
	checkAbout(t, s, []int{1, 1, 0}, with, 0, nothing, 0)
	s.Pods[0].With, s.Pods[2].With = near("zone"), near("none") // no terms: anybody, and so itself; a key that no node has
	checkAbout(t, s, []int{0, wait, 0}, with, 0, nothing, 1)
	checkAbout(t, s, []int{3, 3, 3}, with, 1, nothing, 1)
	s.Pods[0].With = near("zone", is("app", "web"), has("tier")) // all terms of one pod
	checkAbout(t, s, []int{0, 0, 0}, with, 1, nothing, 1)
	s.Pods[1].Labels = pairs("app", "web", "tier", "1")
	checkAbout(t, s, []int{0, 0, 0}, with, 0, nothing, 1)
}

// TestApart (P8.1): all others of the terms that are near count, itself does not.
func TestApart(t *testing.T) {
	s := podsOf(zones(), 4, func(pod int) api.Pod {
		return []api.Pod{{Labels: pairs("app", "web"), Apart: near("zone", is("app", "web"))}, {Labels: pairs("app", "web")}, {Labels: pairs("app", "db"), Apart: near("host", lacks("tier"))}, {Labels: pairs("app", "web"), Apart: near("zone")}}[pod]
	})
	for _, x := range []struct{ p, want []int }{
		{[]int{0, wait, 0, wait}, []int{0, nothing, 1, nothing}},
		{[]int{0, 0, 0, 0}, []int{2, nothing, 3, 3}},
		{[]int{0, 1, 1, 1}, []int{2, nothing, 2, 3}},
		{[]int{1, 2, 1, 0}, []int{1, nothing, 1, 2}},
		{[]int{2, 2, 2, 2}, []int{2, nothing, 0, 3}}, // a zone, but no host
		{[]int{3, 3, 3, 3}, []int{0, nothing, 0, 0}}, // nobody is near a node without a zone
		{[]int{3, 0, 0, 2}, []int{0, nothing, 1, 0}},
		{[]int{wait, 0, wait, 0}, []int{nothing, nothing, nothing, 1}},
	} {
		checkAbout(t, s, x.p, apart, x.want...)
	}
}

// TestDouble (P8.1): others of the owner on the node, if it is single; those without an owner are nobody's.
func TestDouble(t *testing.T) {
	owners := []string{"a", "a", "a", "b", "b", "", ""}
	s := podsOf(zones(), len(owners), func(pod int) api.Pod { return api.Pod{Owner: owners[pod]} })
	s.Owners = []api.Owner{{Name: "a", Single: true}, {Name: "b"}}
	checkAbout(t, s, []int{0, 0, 0, 0, 0, 0, 0}, double, 2, 2, 2, nothing, nothing, nothing, nothing)
	checkAbout(t, s, []int{0, 1, 0, 0, 1, 1, 1}, double, 1, 0, 1, nothing, nothing, nothing, nothing)
	checkAbout(t, s, []int{0, 1, 2, 0, 0, 1, 1}, double, 0, 0, 0, nothing, nothing, nothing, nothing)
	checkAbout(t, s, []int{wait, 3, wait, 3, 3, 3, 3}, double, nothing, 0, nothing, nothing, nothing, nothing, nothing)
	s.Owners[0].Single, s.Owners[1].Single = false, true
	checkAbout(t, s, []int{0, 0, 0, 0, 0, 0, 0}, double, nothing, nothing, nothing, 1, 1, nothing, nothing)
}

// TestSpread (P8.1): what the fullest domain has above the emptiest, less the skew; nodes without a domain, or lost, count for none.
func TestSpread(t *testing.T) {
	s := podsOf(zones(), 5, func(pod int) api.Pod { return api.Pod{Owner: []string{"o", "o", "o", "o", "w"}[pod]} })
	s.Owners = []api.Owner{{Name: "n", Topo: "none", Skew: 1}, {Name: "o", Topo: "zone", Skew: 1}, {Name: "w"}}
	for _, x := range []struct {
		p  []int
		by int
	}{
		{[]int{wait, wait, wait, wait, 0}, 0},
		{[]int{0, wait, wait, wait, 0}, 0},
		{[]int{0, 1, wait, wait, 2}, 1},
		{[]int{2, 2, 2, 2, 0}, 3},
		{[]int{2, 2, 1, 2, 0}, 1},
		{[]int{2, 2, 1, 0, wait}, 0},
		{[]int{3, 3, 3, 3, 3}, 0},
		{[]int{3, 0, 0, 1, 2}, 2},
	} {
		for skew := 1; skew < 5; skew++ {
			s.Owners[1].Skew = skew
			checkAbout(t, s, x.p, spread, 0, max(0, x.by+1-skew), nothing)
		}
		s.Owners[1].Skew = 1
	}
	s.Owners[1].Topo = "rack" // one domain alone
	checkAbout(t, s, []int{3, 3, 3, 3, 3}, spread, 0, 0, nothing)
	s.Owners[1].Topo = "zone"
	s.Nodes[4].Labels[0].Value = "z"
	checkAbout(t, s, []int{0, 0, 2, 2, wait}, spread, 0, 0, nothing)
	s.Nodes[4].Lost = false // a domain more, that is empty
	checkAbout(t, s, []int{0, 0, 2, 2, wait}, spread, 0, 1, nothing)
	checkAbout(t, s, []int{0, 0, 2, 4, wait}, spread, 0, 0, nothing)
}

// TestMin (P8.1): of each owner, how many of its pods are missing.
func TestMin(t *testing.T) {
	s := podsOf(zones(), 4, func(pod int) api.Pod { return api.Pod{Owner: []string{"a", "a", "b", ""}[pod]} })
	s.Owners = []api.Owner{{Name: "a", Min: 2}, {Name: "b"}, {Name: "c", Min: 24}}
	checkAbout(t, s, []int{0, 3, 0, 0}, least, 0, 0, 24)
	checkAbout(t, s, []int{wait, 3, wait, 0}, least, 1, 0, 24)
	checkAbout(t, s, []int{wait, wait, wait, wait}, least, 2, 0, 24)
	s.Owners[0].Min = 1
	checkAbout(t, s, []int{0, 3, 0, 0}, least, 0, 0, 24)
}
