package clause_test

import (
	"math"
	"slices"
	"testing"

	"drayage/api"
	"drayage/clause"
)

const (
	most    = api.MaxQty
	wait    = api.Nowhere
	capOf   = api.ClauseCap
	where   = api.ClauseWhere
	taint   = api.ClauseTaint
	with    = api.ClauseWith
	apart   = api.ClauseApart
	double  = api.ClauseDouble
	spread  = api.ClauseSpread
	least   = api.ClauseMin
	nothing = -1 // that there is no such clause
)

// pairs makes labels of keys and values that alternate.
func pairs(words ...string) (l []api.Label) {
	for i := 0; i < len(words); i += 2 {
		l = append(l, api.Label{Key: words[i], Value: words[i+1]})
	}
	return l
}

func is(key, value string) api.Term  { return api.Term{Kind: api.TermIs, Key: key, Value: value} }
func not(key, value string) api.Term { return api.Term{Kind: api.TermNot, Key: key, Value: value} }
func has(key string) api.Term        { return api.Term{Kind: api.TermHas, Key: key} }
func lacks(key string) api.Term      { return api.Term{Kind: api.TermLacks, Key: key} }

func near(topo string, l ...api.Term) api.Near { return api.Near{Topo: topo, Terms: l} }

// example makes the cluster of the chapter's examples.
func example() api.Snap {
	s := api.Snap{
		Nodes:  []api.Node{{Name: "a", Labels: pairs("zone", "x")}, {Name: "b", Labels: pairs("zone", "y")}, {Name: "c"}},
		Pods:   []api.Pod{{Name: "p", Owner: "o", Req: api.Vec{10}}, {Name: "q", Owner: "o", Req: api.Vec{10}}, {Name: "r", Owner: "o", Req: api.Vec{10}}},
		Owners: []api.Owner{{Name: "o", Min: 3, Topo: "zone", Skew: 1}},
	}
	for node := range s.Nodes {
		s.Nodes[node].Cap = api.Vec{15}
	}
	return s
}

// full makes one that has clauses of each kind, with a node that is lost (1), one that is cordoned (2), one without a zone (3), and pods that have no owner (3, 5).
func full() api.Snap {
	return api.Snap{
		Nodes: []api.Node{
			{Name: "n0", Cap: api.Vec{10, 20, 30, 40, 50}, Labels: pairs("disk", "ssd", "zone", "x"), Taints: pairs("gpu", "1", "old", "y")},
			{Name: "n1", Cap: api.Vec{99}, Labels: pairs("zone", "l"), Taints: pairs("gpu", "2"), Lost: true},
			{Name: "n2", Cap: api.Vec{5}, Labels: pairs("zone", "b"), Cordon: true},
			{Name: "n3", Labels: pairs("disk", "hdd"), Taints: pairs("gpu", "2")},
			{Name: "n4", Cap: api.Vec{100, 100, 100, 100, 100}, Labels: pairs("disk", "ssd", "zone", "x")},
		},
		Pods: []api.Pod{
			{Name: "p0", Owner: "web", Req: api.Vec{8, 20, 31, 39}, Labels: pairs("app", "web"), Where: []api.Term{is("disk", "ssd"), has("zone")}, Bears: pairs("gpu", "1")},
			{Name: "p1", Owner: "web", Req: api.Vec{4}, Labels: pairs("app", "web", "tier", "a"), Where: []api.Term{is("disk", "hdd"), lacks("zone"), not("disk", "ssd")}, Bears: pairs("gpu", "*")},
			{Name: "p2", Owner: "db", Req: api.Vec{1, 0, 0, 2, 50}, Labels: pairs("app", "db"), With: near("zone", is("app", "web"))},
			{Name: "p3", Req: api.Vec{0, 0, 0, 0, 1}, Labels: pairs("app", "web"), Bears: pairs("gpu", "2", "old", "*"), Apart: near("zone", is("app", "web"))},
			{Name: "p4", Owner: "web", Labels: pairs("app", "cache"), With: near("rack"), Apart: near("disk")},
			{Name: "p5", On: "n0"},
		},
		Owners: []api.Owner{
			{Name: "db", Min: 2, Single: true},
			{Name: "lone", Min: 1, Topo: "rack", Skew: 24},
			{Name: "web", Topo: "zone", Skew: 1, Single: true},
		},
	}
}

func checkOf(t *testing.T, s api.Snap, p []int, kind, a, b, want int) {
	t.Helper()
	by, is := clause.Of(s, p, kind, a, b)
	if is != (want != nothing) || by != max(want, 0) {
		t.Errorf("Of(%v, kind %d, %d, %d): %d, %t, not %d", p, kind, a, b, by, is, want)
	}
}

// checkAbout asks for the clause of one kind about each of a list.
func checkAbout(t *testing.T, s api.Snap, p []int, kind int, want ...int) {
	t.Helper()
	for a, by := range want {
		checkOf(t, s, p, kind, a, 0, by)
	}
	checkOf(t, s, p, kind, len(want), 0, nothing)
}

// checkAll asks for all clauses, and that the other calls tell the same.
func checkAll(t *testing.T, s api.Snap, p []int, want []api.Clause) {
	t.Helper()
	if l, e := clause.All(s, p); !slices.Equal(l, want) || e != api.OK {
		t.Errorf("All(%v): %v, %d, not %v", p, l, e, want)
	}
	isOne := func(isSo func(c api.Clause) bool) (l []api.Clause) {
		for _, c := range want {
			if isSo(c) {
				l = append(l, c)
			}
		}
		return l
	}
	broken := isOne(func(c api.Clause) bool { return c.By != 0 })
	if l := clause.Broken(s, p); !slices.Equal(l, broken) {
		t.Errorf("Broken(%v): %v, not %v", p, l, broken)
	}
	for pod := -1; pod <= len(s.Pods); pod++ {
		about := isOne(func(c api.Clause) bool { return c.Kind >= where && c.Kind <= double && c.A == pod })
		if l := clause.Pod(s, p, pod); !slices.Equal(l, about) {
			t.Errorf("Pod(%v, %d): %v, not %v", p, pod, l, about)
		}
	}
	for _, c := range want {
		checkOf(t, s, p, c.Kind, c.A, c.B, c.By)
	}
}

// checkNothing asks that nothing is told of a placement that may not be, but the error.
func checkNothing(t *testing.T, what string, s api.Snap, p []int, want api.Errno) {
	t.Helper()
	if l, e := clause.All(s, p); len(l) != 0 || e != want {
		t.Errorf("%s: All(%v): %v, %d, not %d", what, p, l, e, want)
	}
	if l := clause.Broken(s, p); len(l) != 0 {
		t.Errorf("%s: Broken(%v): %v", what, p, l)
	}
	for i := -1; i < 6; i++ {
		if l := clause.Pod(s, p, i); len(l) != 0 {
			t.Errorf("%s: Pod(%v, %d): %v", what, p, i, l)
		}
		for kind := range api.LastClause + 2 {
			checkOf(t, s, p, kind, i, 0, nothing)
		}
	}
}

// TestExamples holds the chapter's table.
func TestExamples(t *testing.T) {
	s := example()
	checkOf(t, s, []int{0, 0, wait}, capOf, 0, api.Cpu, 5)
	checkOf(t, s, []int{0, 0, wait}, spread, 0, 0, 1)
	checkOf(t, s, []int{0, 0, wait}, least, 0, 0, 1)
	checkOf(t, s, []int{0, 0, wait}, with, 0, 0, nothing)
	if l := clause.Broken(s, []int{0, 1, 2}); len(l) != 0 {
		t.Errorf("Broken: %v", l)
	}
	if l := clause.Pod(s, []int{0, 1, 2}, 1); !slices.Equal(l, []api.Clause{{Kind: where, A: 1}, {Kind: taint, A: 1}}) {
		t.Errorf("Pod: %v", l)
	}
}

// TestAll (P8.1, P8.2): of one placement, all there is, each kind broken but the last; a lost node has its clauses, a pod that waits has none.
func TestAll(t *testing.T) {
	var want []api.Clause
	for node, by := range []api.Vec{{2, 0, 1, 0, 1}, {}, {1}, {}, {}} {
		for quantity, n := range by {
			want = append(want, api.Clause{Kind: capOf, A: node, B: quantity, By: n})
		}
	}
	s := full()
	s.Nodes[0].Cap[api.Disk], s.Nodes[2].Cap = 30, api.Vec{0, 0, 0, 2, 50}
	s.Nodes[0].Cap[api.Extra] = 0
	checkAll(t, s, []int{0, 0, 2, 0, wait, wait}, append(want,
		api.Clause{Kind: where, A: 0}, api.Clause{Kind: where, A: 1, By: 3}, api.Clause{Kind: where, A: 2}, api.Clause{Kind: where, A: 3},
		api.Clause{Kind: taint, A: 0, By: 1}, api.Clause{Kind: taint, A: 1, By: 1}, api.Clause{Kind: taint, A: 2}, api.Clause{Kind: taint, A: 3, By: 1},
		api.Clause{Kind: with, A: 2, By: 1},
		api.Clause{Kind: apart, A: 3, By: 2},
		api.Clause{Kind: double, A: 0, By: 1}, api.Clause{Kind: double, A: 1, By: 1}, api.Clause{Kind: double, A: 2},
		api.Clause{Kind: spread, A: 1}, api.Clause{Kind: spread, A: 2, By: 1},
		api.Clause{Kind: least, A: 0, By: 1}, api.Clause{Kind: least, A: 1, By: 1}, api.Clause{Kind: least, A: 2}))
	checkAll(t, api.Snap{}, nil, nil)
	checkAll(t, api.Snap{Pods: []api.Pod{{Name: "p"}}}, []int{wait}, nil)
	checkAll(t, api.Snap{Owners: []api.Owner{{Name: "o", Min: 24}}}, nil, []api.Clause{{Kind: least, By: 24}})
}

// TestNoPlacement (P8.1, P8.2): place.Check's error, and nothing else.
func TestNoPlacement(t *testing.T) {
	for _, p := range [][]int{nil, {0, 0, 0, 0, 0}, {0, 0, 0, 0, 0, 0, 0}, {0, 0, 0, 0, 0, 1}, {5, 0, 0, 0, 0, 0}, {0, -2, 0, 0, 0, 0}, {0, 0, 0, math.MaxInt, 0, 0}, make([]int, 100000)} {
		checkNothing(t, "no placement", full(), p, api.ErrArg)
	}
	checkNothing(t, "a number too many", api.Snap{}, []int{wait}, api.ErrArg)
	for what, change := range map[string]func(s *api.Snap){
		"nodes that fall":       func(s *api.Snap) { slices.Reverse(s.Nodes) },
		"a pod on a lost node":  func(s *api.Snap) { s.Pods[5].On = "n1" },
		"a key twice":           func(s *api.Snap) { s.Nodes[0].Labels[0].Key = "zone" },
		"an owner that is none": func(s *api.Snap) { s.Pods[5].Owner = "none" },
		"terms without a key":   func(s *api.Snap) { s.Pods[4].With.Topo, s.Pods[4].With.Terms = "", []api.Term{has("app")} },
		"a least below 0":       func(s *api.Snap) { s.Owners[0].Min = -1 },
	} {
		s := full()
		change(&s)
		for _, p := range [][]int{{0, 0, 2, 0, wait, wait}, {9}, nil} {
			checkNothing(t, what, s, p, api.ErrSnap)
		}
	}
	s := full()
	s.Pods[0].Req[1], s.Pods[5].Req[1] = most, 1
	checkNothing(t, "sums that go too far", s, []int{0, 0, 2, 0, wait, wait}, api.ErrOver)
	checkNothing(t, "sums that go too far", s, nil, api.ErrOver)
}

// far are numbers that are no places of anything.
func far(count int) []int {
	return []int{count, count + 1, -1, -2, math.MaxInt, math.MinInt, math.MaxInt32, 1 << 32}
}

// TestNoSuch (P8.1, P8.2): no kind, no place, a B where there is none.
func TestNoSuch(t *testing.T) {
	s, p := full(), []int{0, 0, 2, 0, 4, wait}
	for kind, count := range map[int]int{capOf: 5, where: 5, taint: 5, with: 5, apart: 5, double: 5, spread: 3, least: 3} {
		for _, a := range far(count) {
			checkOf(t, s, p, kind, a, 0, nothing)
		}
	}
	for _, kind := range append(far(api.LastClause+1), 0, 1<<32+capOf) {
		checkOf(t, s, p, kind, 0, 0, nothing)
	}
	for _, quantity := range far(api.Kinds) {
		checkOf(t, s, p, capOf, 0, quantity, nothing)
	}
	for _, c := range []api.Clause{{Kind: where}, {Kind: taint, A: 1, By: 1}, {Kind: with, A: 2, By: 1}, {Kind: apart, A: 3, By: 2}, {Kind: double, By: 1}, {Kind: spread, A: 2, By: 2}, {Kind: least, By: 1}} {
		checkOf(t, s, p, c.Kind, c.A, 0, c.By)
		for _, b := range []int{-1, 1, 2, 3, 4, 5, math.MaxInt, math.MinInt} {
			checkOf(t, s, p, c.Kind, c.A, b, nothing)
		}
	}
	for _, pod := range append(far(len(s.Pods)), 5) {
		if l := clause.Pod(s, p, pod); len(l) != 0 {
			t.Errorf("Pod(%d): %v", pod, l)
		}
	}
}
