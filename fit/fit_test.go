package fit_test

import (
	"math"
	"slices"
	"testing"

	"drayage/api"
	"drayage/fit"
)

const (
	most = api.MaxQty
	wait = api.Nowhere
)

// pairs makes labels of keys and values that alternate.
func pairs(words ...string) (l []api.Label) {
	for i := 0; i < len(words); i += 2 {
		l = append(l, api.Label{Key: words[i], Value: words[i+1]})
	}
	return l
}

func is(key, value string) []api.Term { return []api.Term{{Kind: api.TermIs, Key: key, Value: value}} }

func bind(pod, node int) api.Step { return api.Step{Kind: api.StepBind, Pod: pod, Node: node} }

// far are numbers that are no places of anything.
func far(count int) []int {
	return []int{count, count + 1, -1, -2, math.MaxInt, math.MinInt, math.MaxInt32, 1 << 32}
}

// of makes a cluster of nodes n0, n1 .. that have that much, and pods pa, pb .. that ask for that much.
func of(caps, reqs []api.Vec) (s api.Snap) {
	for i, v := range caps {
		s.Nodes = append(s.Nodes, api.Node{Name: "n" + string(rune('0'+i)), Cap: v})
	}
	for i, v := range reqs {
		s.Pods = append(s.Pods, api.Pod{Name: "p" + string(rune('a'+i)), Req: v})
	}
	return s
}

// example makes the cluster of the chapter's examples.
func example() api.Snap {
	return of([]api.Vec{{100}, {60}}, []api.Vec{{50}, {30}, {40}, {20}})
}

func checkLeft(t *testing.T, s api.Snap, p []int, node, want int) {
	t.Helper()
	if n := fit.Left(s, p, node); n != want {
		t.Errorf("Left(%v, %d): %d, not %d", p, node, n, want)
	}
}

// checkRank asks also that Best is the first one.
func checkRank(t *testing.T, s api.Snap, p []int, pod int, want ...int) {
	t.Helper()
	if l := fit.Rank(s, p, pod); !slices.Equal(l, want) {
		t.Errorf("Rank(%v, %d): %v, not %v", p, pod, l, want)
	}
	first := append(slices.Clone(want), 0)[0]
	if node, is := fit.Best(s, p, pod); node != first || is != (len(want) > 0) {
		t.Errorf("Best(%v, %d): %d, %t, not the first one of %v", p, pod, node, is, want)
	}
}

func checkOrder(t *testing.T, s api.Snap, pods []int, want ...int) {
	t.Helper()
	if l := fit.Order(s, pods); !slices.Equal(l, want) {
		t.Errorf("Order(%v): %v, not %v", pods, l, want)
	}
}

func checkPack(t *testing.T, s api.Snap, p, pods, want []int, waits ...int) {
	t.Helper()
	if q, left, e := fit.Pack(s, p, pods); !slices.Equal(q, want) || !slices.Equal(left, waits) || e != api.OK {
		t.Errorf("Pack(%v, %v): %v, %v, %d, not %v, %v", p, pods, q, left, e, want, waits)
	}
}

// TestExamples holds the chapter's table.
func TestExamples(t *testing.T) {
	s, p := example(), []int{0, 1, wait, wait}
	checkLeft(t, s, p, 0, 500)
	checkLeft(t, s, p, 1, 500)
	checkRank(t, s, p, 3, 1, 0)
	checkRank(t, s, p, 2, 0)
	checkRank(t, s, []int{0, 0, 1, wait}, 3, 0, 1) // nothing is left on either
	checkOrder(t, s, []int{3, 2, 1, 0, 1}, 0, 2, 1, 3)
	checkPack(t, s, []int{wait, wait, wait, wait}, []int{0, 1, 2, 3}, []int{1, 0, 0, 0})
}

// TestLeft (P14.1): what is left, of all quantities of which the node has any, together; of lost and of cordoned nodes, too.
func TestLeft(t *testing.T) {
	s := of([]api.Vec{{100, 0, 50}, {0, 0, 10, 10, 10}, {}, {4, 4, 4, 4, 4}, {7, 7}}, []api.Vec{{10, 3, 10}, {20, 0, 0, 5, 0}, {0, 1, 0, 0, 1}})
	s.Nodes[3].Cordon, s.Nodes[4].Lost = true, true
	for _, x := range []struct {
		p    []int
		want []int
	}{
		{[]int{wait, wait, wait}, []int{2000, 3000, 0, 5000, 2000}},
		{[]int{0, wait, wait}, []int{900 + 800, 3000, 0, 5000, 2000}},
		{[]int{0, 0, wait}, []int{700 + 800, 3000, 0, 5000, 2000}},
		{[]int{0, 0, 0}, []int{700 + 800, 3000, 0, 5000, 2000}}, // of what it has not nothing is left, whoever asks for it
		{[]int{1, 1, 1}, []int{2000, 0 + 500 + 900, 0, 5000, 2000}},
		{[]int{2, 2, 2}, []int{2000, 3000, 0, 5000, 2000}},
		{[]int{3, wait, wait}, []int{2000, 3000, 0, 0 + 250 + 0 + 1000 + 1000, 2000}}, // two of them it is asked for too much
		{[]int{1, 3, 3}, []int{2000, 0 + 1000 + 1000, 0, 0 + 750 + 1000 + 0 + 750, 2000}},
	} {
		for node, want := range x.want {
			checkLeft(t, s, x.p, node, want)
		}
		for _, node := range far(len(s.Nodes)) {
			checkLeft(t, s, x.p, node, 0)
		}
	}
	checkLeft(t, api.Snap{}, nil, 0, 0)
	checkLeft(t, api.Snap{}, nil, -1, 0)
	checkLeft(t, api.Snap{Nodes: s.Nodes}, nil, 0, 2000)
}

// TestLeftOf (P14.1): each share is rounded down, not their sum; it is 0, if more is asked for; great quantities, too.
func TestLeftOf(t *testing.T) {
	for _, x := range []struct{ has, asked, want int }{
		{1, 0, 1000},
		{1, 1, 0},
		{1, 2, 0},
		{1, most, 0},
		{0, 0, 0},
		{0, 1, 0},
		{3, 1, 666},
		{3, 2, 333},
		{1000, 999, 1},
		{1001, 1000, 0},
		{1001, 1, 999},
		{7, 6, 142},
		{most / 5, 0, 1000},
		{most / 5, 1, 999},
		{most / 5, most / 5, 0},
		{most / 5, most / 5 * 2, 0},
	} {
		for kind := range api.Kinds {
			s := of([]api.Vec{{}}, []api.Vec{{}, {}})
			s.Nodes[0].Cap[kind], s.Pods[0].Req[kind], s.Pods[1].Req[kind] = x.has, x.asked/2, x.asked-x.asked/2
			checkLeft(t, s, []int{0, 0}, 0, x.want)
			s.Nodes[0].Cap[(kind+1)%api.Kinds] = 1
			checkLeft(t, s, []int{0, 0}, 0, x.want+1000)
		}
		s := of([]api.Vec{{x.has, x.has, x.has, x.has, x.has}}, []api.Vec{{x.asked, x.asked, x.asked, x.asked, x.asked}})
		checkLeft(t, s, []int{0}, 0, 5*x.want)
	}
	s := of([]api.Vec{{most, most, most, most, most}}, []api.Vec{{1, most, most - 1, 0, most / 2}})
	checkLeft(t, s, []int{wait}, 0, 5000)
	checkLeft(t, s, []int{0}, 0, 999+0+0+1000+500)
}

// TestRank (P14.1): by what is left when the pod is there, not ahead of that; then by rising nodes.
func TestRank(t *testing.T) {
	s := of([]api.Vec{{100}, {10}, {20}, {10}}, []api.Vec{{5}, {10}, {1}})
	checkRank(t, s, []int{wait, wait, wait}, 0, 1, 3, 2, 0) // when it is there 950, 500, 750, 500
	checkRank(t, s, []int{wait, 0, wait}, 0, 1, 3, 2, 0)    // ahead n0 has least: 900
	checkRank(t, s, []int{wait, 2, wait}, 0, 2, 1, 3, 0)    // 950, 500, 250, 500
	checkRank(t, s, []int{wait, 1, wait}, 0, 3, 2, 0)       // no room on n1
	checkRank(t, s, []int{wait, wait, 3}, 0, 3, 1, 2, 0)    // 950, 500, 750, 400
	checkRank(t, s, []int{0, wait, 3}, 1, 1, 2, 0)          // 850, 0, 500
	s.Nodes[1].Cordon, s.Nodes[2].Lost = true, true
	checkRank(t, s, []int{wait, wait, wait}, 0, 3, 0)
	s.Pods[0].Req = api.Vec{most / 2}
	checkRank(t, s, []int{wait, wait, wait}, 0)
}

// TestRankAll (P14.1): several quantities count together, those alone that the node has; what is left on other nodes counts for nothing.
func TestRankAll(t *testing.T) {
	s := of([]api.Vec{{10, 10, 10}, {10}, {10, 10}}, []api.Vec{{1}, {1}, {0, 10}, {9, 0, 10}})
	checkRank(t, s, []int{wait, wait, wait, wait}, 0, 1, 2, 0) // 2900, 900, 1900
	checkRank(t, s, []int{wait, wait, 2, 0}, 0, 1, 2, 0)       // 1000, 900, 900
	checkRank(t, s, []int{wait, 1, 2, 0}, 0, 1, 2, 0)          // 1000, 800, 900
	checkRank(t, s, []int{wait, wait, wait, 0}, 0, 1, 0, 2)    // 1000, 900, 1900
	checkRank(t, s, []int{wait, wait, wait, wait}, 2, 2, 0)    // n1 has no memory
	checkRank(t, s, []int{wait, wait, 0, wait}, 2)
}

// TestRankFull (P14.1): one that asks for nothing may be bound where too much is asked for; there nothing is left.
func TestRankFull(t *testing.T) {
	s := of([]api.Vec{{10}, {10, 7}, {10, 7}, {10}}, []api.Vec{{}, {20}, {11, 8}, {10}})
	checkRank(t, s, []int{wait, 0, 1, wait}, 0, 0, 1, 3, 2)
	checkRank(t, s, []int{wait, wait, 2, wait}, 0, 2, 0, 3, 1)
	checkRank(t, s, []int{wait, 3, 3, 0}, 0, 0, 3, 1, 2)
}

// TestNoRank (P14.1): nothing of a pod that does not wait, or that there is not, or without a way.
func TestNoRank(t *testing.T) {
	s := example()
	for pod := range s.Pods {
		checkRank(t, s, []int{0, 1, 0, 1}, pod)
	}
	for _, pod := range far(len(s.Pods)) {
		checkRank(t, s, []int{0, 1, wait, wait}, pod)
		checkRank(t, api.Snap{}, nil, pod)
	}
	checkRank(t, s, []int{wait, 0, 0, 0}, 0, 1)
	checkRank(t, s, []int{wait, 1, 0, 0}, 0)
	checkRank(t, api.Snap{Pods: s.Pods}, []int{wait, wait, wait, wait}, 0)
	checkRank(t, api.Snap{Nodes: s.Nodes}, nil, 0)
}

// TestOrder (P14.2): by falling size, then rising; each once; those that there are.
func TestOrder(t *testing.T) {
	s := of([]api.Vec{{100}}, []api.Vec{{50}, {30}, {50}, {}, {30}, {51}})
	checkOrder(t, s, []int{0, 1, 2, 3, 4, 5}, 5, 0, 2, 1, 4, 3)
	checkOrder(t, s, []int{5, 4, 3, 2, 1, 0}, 5, 0, 2, 1, 4, 3)
	checkOrder(t, s, []int{3, 3, 3}, 3)
	checkOrder(t, s, []int{4, 1, 4, 1, 0}, 0, 1, 4)
	checkOrder(t, s, []int{3, 5}, 5, 3)
	checkOrder(t, s, []int{})
	checkOrder(t, s, nil)
	checkOrder(t, s, far(len(s.Pods)))
	checkOrder(t, s, append(far(len(s.Pods)), 3, 2, 3), 2, 3)
	checkOrder(t, s, append([]int{1, 5}, far(len(s.Pods))...), 5, 1)
	long := make([]int, 100000)
	for i := range long {
		long[i] = i%9 - 1
	}
	checkOrder(t, s, long, 5, 0, 2, 1, 4, 3)
	checkOrder(t, api.Snap{}, []int{0, 1, -1})
	checkOrder(t, api.Snap{Nodes: s.Nodes}, []int{0})
	for node := range s.Nodes { // nothing hangs on where pods are
		s.Pods[1].On, s.Pods[4].On = s.Nodes[node].Name, s.Nodes[node].Name
		checkOrder(t, s, []int{0, 1, 2, 3, 4, 5}, 5, 0, 2, 1, 4, 3)
	}
}

// TestSize (P14.2): the greatest share of the greatest that a node has, of the quantities of which one has some, be it lost or cordoned; rounded down.
func TestSize(t *testing.T) {
	order := func(caps []api.Vec, a, b api.Vec, want ...int) {
		t.Helper()
		s := of(caps, []api.Vec{a, b})
		checkOrder(t, s, []int{0, 1}, want...)
		checkOrder(t, s, []int{1, 0}, want...)
		for node := range s.Nodes {
			s.Nodes[node].Cordon, s.Nodes[node].Lost = true, node%2 == 0
		}
		checkOrder(t, s, []int{0, 1}, want...)
	}
	order([]api.Vec{{100, 10}}, api.Vec{50}, api.Vec{0, 6}, 1, 0)
	order([]api.Vec{{100, 10}}, api.Vec{50}, api.Vec{0, 5}, 0, 1)
	order([]api.Vec{{100, 10}}, api.Vec{50, 1}, api.Vec{49, 5}, 0, 1)     // the greatest, not all together
	order([]api.Vec{{100}, {0, 10}}, api.Vec{50}, api.Vec{0, 6}, 1, 0)    // of several nodes
	order([]api.Vec{{100, 10}, {1, 1}}, api.Vec{1}, api.Vec{0, 1}, 1, 0)  // the greatest of a quantity
	order([]api.Vec{{10, 10}, {100, 1}}, api.Vec{9}, api.Vec{0, 1}, 1, 0) // wherever it is
	order([]api.Vec{{100}}, api.Vec{1}, api.Vec{0, most}, 0, 1)           // no node has memory
	order([]api.Vec{{100}}, api.Vec{}, api.Vec{0, most, 1, 1, 1}, 0, 1)   // nor the rest
	order([]api.Vec{{1000, 2000}}, api.Vec{1}, api.Vec{0, 3}, 0, 1)       // 1 and 1.5
	order([]api.Vec{{1000, 2000}}, api.Vec{1}, api.Vec{0, 4}, 1, 0)       // 1 and 2
	order([]api.Vec{{3, 1000}}, api.Vec{0, 333}, api.Vec{1}, 0, 1)        // 333 and 333 1/3
	order([]api.Vec{{3, 1000}}, api.Vec{0, 332}, api.Vec{1}, 1, 0)        // 332 and 333 1/3
	order([]api.Vec{{1, 1}}, api.Vec{2}, api.Vec{0, 3}, 1, 0)             // more than all
	order([]api.Vec{{1}}, api.Vec{most - 1}, api.Vec{1}, 0, 1)            // far more
	order([]api.Vec{{1, 1}}, api.Vec{1}, api.Vec{0, most}, 1, 0)
	order([]api.Vec{{most, most}}, api.Vec{most / 2}, api.Vec{0, most}, 1, 0)
	order([]api.Vec{{most, most}}, api.Vec{1}, api.Vec{0, most / 1001}, 0, 1)   // both 0
	order([]api.Vec{{most, most}}, api.Vec{1}, api.Vec{0, most/1000 + 1}, 1, 0) // 0 and 1
	order([]api.Vec{{}, {}}, api.Vec{1}, api.Vec{2}, 0, 1)
	order(nil, api.Vec{1}, api.Vec{2}, 0, 1)
	for kind := range api.Kinds {
		var has, x api.Vec
		has[kind], x[kind] = 10, 1
		order([]api.Vec{has}, api.Vec{}, x, 1, 0)
	}
}

// TestPack (P14.3): one behind the other, in Order, each on its Best, as that is when those ahead are bound.
func TestPack(t *testing.T) {
	s, all := example(), []int{0, 1, 2, 3}
	none := []int{wait, wait, wait, wait}
	checkPack(t, s, none, []int{3, 0, 2, 1, 0, 3}, []int{1, 0, 0, 0})
	checkPack(t, s, none, []int{3}, []int{wait, wait, wait, 1})
	checkPack(t, s, none, []int{1, 3}, []int{wait, 1, wait, 1})
	checkPack(t, s, []int{1, wait, wait, wait}, all, []int{1, 0, 0, 0})
	checkPack(t, s, []int{0, wait, wait, wait}, all, []int{0, 1, 0, 1})
	checkPack(t, s, none, nil, none)
	checkPack(t, s, none, far(4), none)
	checkPack(t, s, none, append(far(4), 0), []int{1, wait, wait, wait})
	checkPack(t, s, []int{0, 1, 0, 1}, all, []int{0, 1, 0, 1})
	checkPack(t, s, []int{1, 1, 1, 1}, all, []int{1, 1, 1, 1}) // what asks for too much already stays
	checkPack(t, s, []int{1, 1, 1, wait}, all, []int{1, 1, 1, 0})
	checkPack(t, api.Snap{}, nil, all, nil)
	checkPack(t, api.Snap{}, []int{}, nil, nil)
	checkPack(t, api.Snap{Nodes: s.Nodes}, nil, all, nil)
	checkPack(t, api.Snap{Pods: s.Pods}, none, []int{3, 0}, none, 0, 3)
}

// TestWaits (P14.3): those of the pods handed in that still wait, rising, whatever their sizes; those behind them are bound all the same.
func TestWaits(t *testing.T) {
	s := of([]api.Vec{{10}, {4}}, []api.Vec{{5}, {11}, {4}, {12}, {11}})
	none, all := []int{wait, wait, wait, wait, wait}, []int{4, 3, 2, 1, 0}
	checkPack(t, s, none, all, []int{0, wait, 1, wait, wait}, 1, 3, 4)
	checkPack(t, s, none, []int{3, 1, 3}, none, 1, 3)
	checkPack(t, s, none, []int{0, 3}, []int{0, wait, wait, wait, wait}, 3) // others wait, too
	checkPack(t, s, none, []int{2}, []int{wait, wait, 1, wait, wait})
	checkPack(t, s, []int{0, 0, wait, 1, 0}, all, []int{0, 0, wait, 1, 0}, 2)
	checkPack(t, s, []int{wait, 0, wait, 1, wait}, all, []int{wait, 0, wait, 1, wait}, 0, 2, 4)
	s.Nodes[0].Cordon = true
	checkPack(t, s, none, all, []int{wait, wait, 1, wait, wait}, 0, 1, 3, 4)
	s.Nodes[1].Lost = true
	checkPack(t, s, none, all, none, 0, 1, 2, 3, 4)
}

// TestOneTry (P14.3): a pod has one try, even if it could be bound once one behind it is.
func TestOneTry(t *testing.T) {
	s := of([]api.Vec{{10}, {10}}, []api.Vec{{5}, {2}})
	s.Nodes[0].Labels, s.Nodes[1].Labels = pairs("zone", "x"), pairs("zone", "y")
	s.Pods[0].With = api.Near{Topo: "zone", Terms: is("app", "web")}
	s.Pods[1].Labels = pairs("app", "web")
	checkPack(t, s, []int{wait, wait}, []int{0, 1}, []int{wait, 0}, 0)
	checkRank(t, s, []int{wait, 0}, 0, 0)
	s.Pods[1].Req = api.Vec{5, 0}
	checkPack(t, s, []int{wait, wait}, []int{1, 0}, []int{wait, 0}, 0)
	s.Pods[1].Req = api.Vec{6}
	checkPack(t, s, []int{wait, wait}, []int{0, 1}, []int{wait, 0}, 0) // both fit, but not on one node
	s.Nodes[1].Labels = pairs("zone", "x")
	checkPack(t, s, []int{wait, wait}, []int{0, 1}, []int{1, 0})
}
