package detect_test

import (
	"math"
	"slices"
	"testing"

	"drayage/api"
	"drayage/detect"
)

const (
	most = api.MaxQty
	wait = api.Nowhere
)

// pairs makes labels of keys and values that alternate.
func pairs(words ...string) (l []api.Label) {
	for i := 0; i < len(words); i += 2 {
		l = append(l, api.Label{Key: words[i], Value: words[i+1]})
	}
	return l
}

func is(key, value string) []api.Term { return []api.Term{{Kind: api.TermIs, Key: key, Value: value}} }

func on(bits int) api.Goal { return api.Goal{On: bits} }

func drain(names ...string) api.Goal { return api.Goal{Drain: names} }

// far are numbers that are no places of anything.
func far(count int) []int {
	return []int{count, count + 1, -1, -2, math.MaxInt, math.MinInt, math.MaxInt32, 1 << 32}
}

// example makes the cluster of the chapter's examples: chapter 12's, changed.
func example() api.Snap {
	return api.Snap{
		Nodes: []api.Node{{Name: "a", Cap: api.Vec{100, 100}}, {Name: "b", Cap: api.Vec{100}, Taints: pairs("k", "v")}},
		Pods:  []api.Pod{{Name: "p", Req: api.Vec{30, 10}}, {Name: "q", Req: api.Vec{90, 1}, Where: is("none", "1")}},
	}
}

// zones makes nodes n0, n1 .. with 1000 of cpu and of memory, one in each of these zones (in none, if it is empty), and a pod for each of these owners, which asks for nothing.
func zones(zones []string, owners ...string) (s api.Snap) {
	for i, zone := range zones {
		n := api.Node{Name: "n" + string(rune('0'+i)), Cap: api.Vec{1000, 1000}}
		if zone != "" {
			n.Labels = pairs("zone", zone)
		}
		s.Nodes = append(s.Nodes, n)
	}
	for i, owner := range owners {
		s.Pods = append(s.Pods, api.Pod{Name: "p" + string(rune('a'+i)), Owner: owner})
	}
	return s
}

// checkWhy asks why each pod is to go, in order, and that the other calls tell the same.
func checkWhy(t *testing.T, s api.Snap, p []int, g api.Goal, want ...int) {
	t.Helper()
	var wrong []api.Wrong
	for why := 1; why <= api.LastWhy; why++ {
		for node := range s.Nodes {
			for pod := range s.Pods {
				if want[pod] == why && p[pod] == node {
					wrong = append(wrong, api.Wrong{Why: why, Pod: pod, Node: node})
				}
			}
		}
	}
	for pod := range s.Pods {
		if why := detect.Why(s, p, g, pod); why != want[pod] {
			t.Errorf("Why(%v, %v, %d): %d, not %d", p, g, pod, why, want[pod])
		}
	}
	if l := detect.Pods(s, p, g); !slices.Equal(l, wrong) {
		t.Errorf("Pods(%v, %v): %v, not %v", p, g, l, wrong)
	}
	if is := detect.Fine(s, p, g); is != (len(wrong) == 0) {
		t.Errorf("Fine(%v, %v): %t, though %v are to go", p, g, is, wrong)
	}
}

// TestExamples holds the chapter's table.
func TestExamples(t *testing.T) {
	s := example()
	checkPods := func(p []int, g api.Goal, want ...api.Wrong) {
		t.Helper()
		if l := detect.Pods(s, p, g); !slices.Equal(l, want) {
			t.Errorf("Pods(%v, %v): %v, not %v", p, g, l, want)
		}
	}
	checkPods([]int{1, 1}, on(0), api.Wrong{Why: 2, Pod: 1, Node: 1})
	checkPods([]int{1, 1}, on(api.OnTaint), api.Wrong{Why: 2, Pod: 0, Node: 1}, api.Wrong{Why: 2, Pod: 1, Node: 1})
	checkPods([]int{1, 0}, api.Goal{Drain: []string{"b"}, High: [2]int{100, 0}}, api.Wrong{Why: 1, Pod: 0, Node: 1}, api.Wrong{Why: 2, Pod: 1, Node: 0})
	if why := detect.Why(s, []int{0, wait}, drain("a"), 1); why != 0 {
		t.Errorf("Why of a pod that waits: %d", why)
	}
}

// TestOrder (P13.1): by rising Why, then Node, then Pod, whatever the order of the pods.
func TestOrder(t *testing.T) {
	s := zones([]string{"x", "y", "z", "x"}, "", "", "", "", "", "", "", "")
	for _, pod := range []int{1, 4, 6} {
		s.Pods[pod].Where = is("zone", "none")
	}
	for _, pod := range []int{0, 7} {
		s.Pods[pod].Req = api.Vec{0, 600}
	}
	p := []int{3, 3, 0, 2, 0, 2, wait, 3}
	g := api.Goal{Drain: []string{"n2"}, High: [2]int{900, 900}, Low: [2]int{1, 1}, On: api.OnEmpty}
	want := [][3]int{{1, 3, 2}, {1, 5, 2}, {2, 4, 0}, {2, 1, 3}, {6, 0, 3}, {6, 7, 3}, {7, 2, 0}}
	l := detect.Pods(s, p, g)
	if !slices.EqualFunc(l, want, func(w api.Wrong, x [3]int) bool { return w == api.Wrong{Why: x[0], Pod: x[1], Node: x[2]} }) {
		t.Errorf("Pods: %v, not %v", l, want)
	}
	checkWhy(t, s, p, g, 6, 2, 7, 1, 2, 1, 0, 6)
}

// TestNone (P13.1): 0 of a pod that waits, and of none; all is fine where none is to go.
func TestNone(t *testing.T) {
	s := example()
	g := api.Goal{Drain: []string{"a", "b"}, High: [2]int{1, 1}, Low: [2]int{1, 1}, On: api.OnAll}
	checkWhy(t, s, []int{wait, wait}, g, 0, 0)
	checkWhy(t, s, []int{wait, 0}, g, 0, 1)
	checkWhy(t, s, []int{0, wait}, on(api.OnAll), 0, 0)
	checkWhy(t, api.Snap{}, nil, g)
	checkWhy(t, api.Snap{Nodes: s.Nodes}, []int{}, g)
	for _, pod := range far(len(s.Pods)) {
		if why := detect.Why(s, []int{0, 1}, g, pod); why != 0 {
			t.Errorf("Why(%d): %d", pod, why)
		}
		if why := detect.Why(api.Snap{}, nil, g, pod); why != 0 {
			t.Errorf("Why(%d) of nothing: %d", pod, why)
		}
	}
}

// TestLeast (P13.1): of several that are so, the least is told; what is not on in the policy is passed over.
func TestLeast(t *testing.T) {
	s := zones([]string{"x", "y"}, "o", "o", "o")
	s.Owners = []api.Owner{{Name: "o", Topo: "zone", Skew: 1, Single: true}}
	s.Nodes[0].Taints = pairs("gpu", "1")
	for pod := range s.Pods {
		s.Pods[pod].Req = api.Vec{300, 1}
		s.Pods[pod].With = api.Near{Topo: "zone", Terms: is("app", "none")}
	}
	s.Pods[1].Where = is("zone", "y")
	p := []int{0, 0, wait}
	g := api.Goal{Drain: []string{"n0"}, High: [2]int{599, 0}, On: api.OnAll}
	checkWhy(t, s, p, g, 1, 1, 0)
	g.Drain = []string{"n1"}
	checkWhy(t, s, p, g, 2, 2, 0)
	g.On &^= api.OnTaint
	checkWhy(t, s, p, g, 3, 2, 0)
	s.Pods[1].Where = is("zone", "x")
	g.On &^= api.OnWith
	checkWhy(t, s, p, g, 4, 4, 0)
	g.On &^= api.OnDouble
	checkWhy(t, s, p, g, 5, 5, 0)
	g.On &^= api.OnSpread
	checkWhy(t, s, p, g, 6, 6, 0)
	g.High, g.Low = [2]int{601, 1000}, [2]int{601, 2}
	checkWhy(t, s, p, g, 0, 0, 0)
	g.Low[1] = 3
	checkWhy(t, s, p, g, 7, 7, 0)
	g.On |= api.OnSpread
	checkWhy(t, s, p, g, 5, 5, 0)
	g.On &^= api.OnSpread | api.OnEmpty
	checkWhy(t, s, p, g, 0, 0, 0)
	checkWhy(t, s, p, on(0), 0, 0, 0)
}
