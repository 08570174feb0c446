package safe_test

import (
	"math"
	"slices"
	"testing"

	"drayage/api"
	"drayage/safe"
)

const (
	most   = api.MaxQty
	wait   = api.Nowhere
	capOf  = api.ClauseCap
	where  = api.ClauseWhere
	taint  = api.ClauseTaint
	with   = api.ClauseWith
	apart  = api.ClauseApart
	double = api.ClauseDouble
	spread = api.ClauseSpread
	least  = api.ClauseMin
)

// pairs makes labels of keys and values that alternate.
func pairs(words ...string) (l []api.Label) {
	for i := 0; i < len(words); i += 2 {
		l = append(l, api.Label{Key: words[i], Value: words[i+1]})
	}
	return l
}

func is(key, value string) api.Term { return api.Term{Kind: api.TermIs, Key: key, Value: value} }
func has(key string) api.Term       { return api.Term{Kind: api.TermHas, Key: key} }

func near(topo string, l ...api.Term) api.Near { return api.Near{Topo: topo, Terms: l} }

// example makes the cluster of the chapter's examples.
func example() api.Snap {
	s := api.Snap{
		Nodes:  []api.Node{{Name: "a", Labels: pairs("zone", "x")}, {Name: "b", Labels: pairs("zone", "y")}, {Name: "c"}},
		Pods:   []api.Pod{{Name: "p", Owner: "o", Req: api.Vec{10}}, {Name: "q", Owner: "o", Req: api.Vec{10}}, {Name: "r", Owner: "o", Req: api.Vec{10}}},
		Owners: []api.Owner{{Name: "o", Min: 3, Topo: "zone", Skew: 1}},
	}
	for node := range s.Nodes {
		s.Nodes[node].Cap = api.Vec{15}
	}
	return s
}

func checkSafe(t *testing.T, s api.Snap, p []int, want bool) {
	t.Helper()
	if is, e := safe.Safe(s, p); is != want || e != api.OK {
		t.Errorf("Safe(%v): %t, %d, not %t", p, is, e, want)
	}
}

func checkSum(t *testing.T, s api.Snap, p []int, want int) {
	t.Helper()
	if sum, e := safe.Sum(s, p); sum != want || e != api.OK {
		t.Errorf("Sum(%v): %d, %d, not %d", p, sum, e, want)
	}
}

func checkWorse(t *testing.T, s api.Snap, p, q []int, want ...api.Clause) {
	t.Helper()
	if l, e := safe.Worse(s, p, q); !slices.Equal(l, want) || e != api.OK {
		t.Errorf("Worse(%v, %v): %v, %d, not %v", p, q, l, e, want)
	}
}

// checkNothing asks that nothing is told of a placement that may not be, but the error; ahead of another one, or behind it.
func checkNothing(t *testing.T, what string, s api.Snap, p, other []int, want api.Errno) {
	t.Helper()
	if is, e := safe.Safe(s, p); is || e != want {
		t.Errorf("%s: Safe(%v): %t, %d, not %d", what, p, is, e, want)
	}
	if sum, e := safe.Sum(s, p); sum != 0 || e != want {
		t.Errorf("%s: Sum(%v): %d, %d, not %d", what, p, sum, e, want)
	}
	for _, two := range [][2][]int{{p, other}, {other, p}, {p, p}} {
		if l, e := safe.Worse(s, two[0], two[1]); len(l) != 0 || e != want {
			t.Errorf("%s: Worse(%v, %v): %v, %d, not %d", what, two[0], two[1], l, e, want)
		}
	}
}

// TestExamples holds the chapter's table.
func TestExamples(t *testing.T) {
	s := example()
	checkSafe(t, s, []int{0, 1, 2}, true)
	checkSafe(t, s, []int{0, 0, 2}, false)
	checkSum(t, s, []int{0, 0, wait}, 3)
	checkWorse(t, s, []int{0, 1, 2}, []int{0, 0, 2}, api.Clause{Kind: capOf, By: 5}, api.Clause{Kind: spread, By: 1})
	checkWorse(t, s, []int{0, 0, 2}, []int{0, 1, 2})
	checkNothing(t, "two numbers", s, []int{0, 1}, []int{0, 1, 2}, api.ErrArg)
}

// TestNothingThere (P9.1): without clauses, and with ones of owners alone.
func TestNothingThere(t *testing.T) {
	checkSafe(t, api.Snap{}, nil, true)
	checkSum(t, api.Snap{}, []int{}, 0)
	checkWorse(t, api.Snap{}, nil, []int{})
	s := api.Snap{Owners: []api.Owner{{Name: "o", Min: 24}}}
	checkSafe(t, s, nil, false)
	checkSum(t, s, nil, 24)
	checkWorse(t, s, nil, nil)
}

// TestWorse (P9.1): what is broken by more is told with what it is broken by in q: be it broken in p, hold there, or not be there; what is broken by as much, or by less, is not.
func TestWorse(t *testing.T) {
	s := example()
	s.Nodes[2].Taints = pairs("gpu", "1", "old", "1")
	s.Owners[0].Skew, s.Owners[0].Min = 2, 2
	apartFrom := near("zone", has("app"))
	for pod := range s.Pods {
		s.Pods[pod].Labels, s.Pods[pod].Apart = pairs("app", "x"), apartFrom
	}
	one := func(kind, a, by int) api.Clause { return api.Clause{Kind: kind, A: a, By: by} }
	for _, x := range []struct {
		p, q []int
		want []api.Clause
	}{
		{[]int{0, 0, 0}, []int{0, 0, 0}, nil},
		{[]int{0, 0, 1}, []int{0, 0, 0}, []api.Clause{one(capOf, 0, 15), one(apart, 0, 2), one(apart, 1, 2), one(apart, 2, 2), one(spread, 0, 1)}},
		{[]int{0, 0, 0}, []int{0, 0, 1}, nil},
		{[]int{0, 0, 0}, []int{1, 1, 1}, []api.Clause{one(capOf, 1, 15)}},
		{[]int{0, 0, 1}, []int{0, 1, 1}, []api.Clause{one(capOf, 1, 5), one(apart, 2, 1)}},
		{[]int{0, 0, 1}, []int{1, 1, 0}, []api.Clause{one(capOf, 1, 5)}},
		{[]int{wait, 1, 2}, []int{2, 1, wait}, []api.Clause{one(taint, 0, 2)}},
		{[]int{2, 1, wait}, []int{2, wait, wait}, []api.Clause{one(least, 0, 1)}},
		{[]int{2, wait, wait}, []int{wait, wait, wait}, []api.Clause{one(least, 0, 2)}},
		{[]int{wait, wait, wait}, []int{wait, 2, 2}, []api.Clause{one(capOf, 2, 5), one(taint, 1, 2), one(taint, 2, 2)}},
	} {
		checkWorse(t, s, x.p, x.q, x.want...)
		checkWorse(t, s, slices.Clone(x.q), slices.Clone(x.q))
	}
}

// TestSum (P9.1): each kind counts by how much it is broken, but ClauseCap, of which each quantity of each node counts 1.
func TestSum(t *testing.T) {
	s := api.Snap{
		Nodes: []api.Node{{Name: "a", Cap: api.Vec{1, 1, 1, 1, 1}, Labels: pairs("zone", "x")}, {Name: "b", Cap: api.Vec{20, 20, 10, 1}, Labels: pairs("zone", "y"), Taints: pairs("gpu", "1", "old", "1", "red", "1")}},
		Pods: []api.Pod{
			{Name: "p", Req: api.Vec{1, 2, most - 4000, 1}},
			{Name: "q", Req: api.Vec{0, 0, 20}},
			{Name: "r", Where: []api.Term{is("zone", "z"), has("disk"), has("zone")}, With: near("zone", has("app"))},
			{Name: "s", Owner: "o", Apart: near("zone")},
			{Name: "t", Owner: "o"}, {Name: "u", Owner: "o"},
		},
		Owners: []api.Owner{{Name: "o", Min: 7, Topo: "zone", Skew: 1, Single: true}},
	}
	none := func(rest ...int) []int { return append(rest, slices.Repeat([]int{wait}, len(s.Pods)-len(rest))...) }
	for what, x := range map[string]struct {
		p    []int
		want int
	}{
		"all wait: 7 too few":                       {none(), 7},
		"the first node has too little of 2":        {none(0), 2 + 7},
		"and the second of one":                     {none(0, 1), 2 + 1 + 3 + 7},
		"the second node alone, no matter how much": {none(1), 1 + 3 + 7},
		"two terms, and nobody near":                {none(wait, wait, 0), 2 + 1 + 7},
		"one there, three taints":                   {none(wait, wait, wait, 1), 3 + 6},
		"three there: apart 2, double 6, spread 2":  {none(wait, wait, wait, 0, 0, 0), 2 + 6 + 2 + 4},
		"two and one: apart 1, double 2":            {none(wait, wait, wait, 0, 0, 1), 1 + 2 + 3 + 4},
	} {
		if sum, e := safe.Sum(s, x.p); sum != x.want || e != api.OK {
			t.Errorf("%s: Sum(%v): %d, %d, not %d", what, x.p, sum, e, x.want)
		}
		checkSafe(t, s, x.p, false)
	}
	s.Owners[0].Min, s.Nodes[1].Cap = 0, api.Vec{1, 2, most - 4000, 1}
	s.Pods[0].Bears = pairs("gpu", "*", "old", "1", "red", "*")
	checkSum(t, s, none(1), 0)
	checkSafe(t, s, none(1), true)
}

// TestNoPlacement (P9.1): place.Check's error, and nothing else.
func TestNoPlacement(t *testing.T) {
	may := []int{0, 1, 2}
	for _, p := range [][]int{nil, {}, {0, 1}, {0, 1, 2, wait}, {0, 1, 3}, {-2, 1, 2}, {0, math.MaxInt, 2}, {0, 1, math.MinInt}, {0, 1, 1 << 32}, make([]int, 100000)} {
		checkNothing(t, "no placement", example(), p, may, api.ErrArg)
	}
	lost := example()
	lost.Nodes[1].Lost = true
	checkNothing(t, "on a lost node", lost, may, []int{0, 0, 2}, api.ErrArg)
	for what, change := range map[string]func(s *api.Snap){
		"nodes that fall":       func(s *api.Snap) { slices.Reverse(s.Nodes) },
		"an owner that is none": func(s *api.Snap) { s.Pods[1].Owner = "none" },
		"a least below 0":       func(s *api.Snap) { s.Owners[0].Min = -1 },
	} {
		s := example()
		change(&s)
		for _, p := range [][]int{may, {0, 1}, nil} {
			checkNothing(t, what, s, p, may, api.ErrSnap)
		}
	}
	s := example()
	s.Pods[0].Req[1], s.Pods[1].Req[1] = most, 1
	checkNothing(t, "sums that go too far", s, may, may, api.ErrOver)
	checkNothing(t, "sums that go too far", s, nil, may, api.ErrOver)
}
