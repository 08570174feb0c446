package admit_test

import (
	"math"
	"slices"
	"testing"

	"drayage/admit"
	"drayage/api"
)

const (
	most   = api.MaxQty
	wait   = api.Nowhere
	capOf  = api.ClauseCap
	where  = api.ClauseWhere
	taint  = api.ClauseTaint
	with   = api.ClauseWith
	apart  = api.ClauseApart
	double = api.ClauseDouble
	spread = api.ClauseSpread
	least  = api.ClauseMin
)

// pairs makes labels of keys and values that alternate.
func pairs(words ...string) (l []api.Label) {
	for i := 0; i < len(words); i += 2 {
		l = append(l, api.Label{Key: words[i], Value: words[i+1]})
	}
	return l
}

func is(key, value string) api.Term { return api.Term{Kind: api.TermIs, Key: key, Value: value} }
func has(key string) api.Term       { return api.Term{Kind: api.TermHas, Key: key} }

func near(topo string, l ...api.Term) api.Near { return api.Near{Topo: topo, Terms: l} }

func evict(pod int) api.Step      { return api.Step{Kind: api.StepEvict, Pod: pod} }
func bind(pod, node int) api.Step { return api.Step{Kind: api.StepBind, Pod: pod, Node: node} }

func about(kind, a, by int) api.Clause { return api.Clause{Kind: kind, A: a, By: by} }

// example makes the cluster of the chapter's examples.
func example() api.Snap {
	s := api.Snap{
		Nodes:  []api.Node{{Name: "a", Labels: pairs("zone", "x")}, {Name: "b", Labels: pairs("zone", "y")}, {Name: "c"}},
		Pods:   []api.Pod{{Name: "p", Owner: "o", Req: api.Vec{10}}, {Name: "q", Owner: "o", Req: api.Vec{10}}, {Name: "r", Owner: "o", Req: api.Vec{10}}},
		Owners: []api.Owner{{Name: "o", Min: 1, Topo: "zone", Skew: 1}},
	}
	for node := range s.Nodes {
		s.Nodes[node].Cap = api.Vec{15}
	}
	return s
}

func checkMakes(t *testing.T, s api.Snap, p []int, x api.Step, want ...int) {
	t.Helper()
	if q, why, e := admit.Step(s, p, x); !slices.Equal(q, want) || why != (api.Clause{}) || e != api.OK {
		t.Errorf("Step(%v, %v): %v, %v, %d, not %v", p, x, q, why, e, want)
	}
	if !admit.May(s, p, x) {
		t.Errorf("May(%v, %v) is false", p, x)
	}
}

// checkNot asks that a step may not be done, and what is told of it.
func checkNot(t *testing.T, s api.Snap, p []int, x api.Step, why api.Clause, e api.Errno) {
	t.Helper()
	if q, told, error := admit.Step(s, p, x); len(q) != 0 || told != why || error != e {
		t.Errorf("Step(%v, %v): %v, %v, %d, not %v, %d", p, x, q, told, error, why, e)
	}
	if admit.May(s, p, x) {
		t.Errorf("May(%v, %v) is true", p, x)
	}
}

func checkWays(t *testing.T, s api.Snap, p []int, pod int, want ...int) {
	t.Helper()
	if l := admit.Ways(s, p, pod); !slices.Equal(l, want) {
		t.Errorf("Ways(%v, %d): %v, not %v", p, pod, l, want)
	}
}

func checkRun(t *testing.T, s api.Snap, p []int, l []api.Step, q []int, at int, e api.Errno) {
	t.Helper()
	if to, place, error := admit.Run(s, p, l); !slices.Equal(to, q) || place != at || error != e {
		t.Errorf("Run(%v, %v): %v, %d, %d, not %v, %d, %d", p, l, to, place, error, q, at, e)
	}
}

// TestExamples holds the chapter's table.
func TestExamples(t *testing.T) {
	s, p := example(), []int{0, 1, wait}
	checkNot(t, s, p, bind(2, 0), api.Clause{Kind: capOf, A: 0, B: 0, By: 5}, api.ErrStep)
	checkMakes(t, s, p, bind(2, 2), 0, 1, 2)
	checkWays(t, s, p, 2, 2)
	checkWays(t, s, p, 0)
	checkMakes(t, s, p, evict(0), wait, 1, wait)
	checkRun(t, s, p, []api.Step{evict(0), bind(2, 0), evict(1), evict(2)}, nil, 3, api.ErrStep)
}

// plain makes the example's cluster without its owner.
func plain() api.Snap {
	s := example()
	s.Owners = nil
	for pod := range s.Pods {
		s.Pods[pod].Owner = ""
	}
	return s
}

// owned makes one in which the pods are of an owner, who asks for nothing yet.
func owned(o api.Owner) api.Snap {
	s := example()
	o.Name = "o"
	s.Owners[0] = o
	for pod := range s.Pods {
		s.Pods[pod].Req = api.Vec{1}
	}
	return s
}

// changed makes one in which its last pod is another one.
func changed(s api.Snap, x api.Pod) api.Snap {
	x.Name, x.Owner, x.Labels = "r", s.Pods[2].Owner, pairs("app", "r")
	s.Pods[2] = x
	return s
}

// TestWorse (P10.1): of each kind, a step that breaks its clause, or breaks it by more, may not be done; the like one that does not may be done, also where the clause is broken already.
func TestWorse(t *testing.T) {
	inX, alone := api.Pod{Where: []api.Term{is("zone", "x"), has("zone")}}, api.Pod{Apart: near("zone")}
	company := changed(plain(), api.Pod{With: near("zone", has("tier"))})
	company.Pods[0].Labels = pairs("tier", "1")
	tainted := changed(plain(), api.Pod{Bears: pairs("gpu", "1")})
	tainted.Nodes[0].Taints, tainted.Nodes[1].Taints = pairs("gpu", "1"), pairs("gpu", "2", "old", "1")
	for what, x := range map[string]struct {
		s       api.Snap
		p       []int
		no      api.Step
		why     api.Clause
		yes     api.Step
		becomes []int
	}{
		"no room":                        {plain(), []int{0, 1, wait}, bind(2, 1), about(capOf, 1, 5), bind(2, 2), []int{0, 1, 2}},
		"none already":                   {plain(), []int{1, 1, wait}, bind(2, 1), about(capOf, 1, 15), evict(0), []int{wait, 1, wait}},
		"of another one":                 {changed(plain(), api.Pod{Req: api.Vec{0, 0, 0, 0, 7}}), []int{0, 1, wait}, bind(2, 2), api.Clause{Kind: capOf, A: 2, B: api.Extra, By: 7}, evict(1), []int{0, wait, wait}},
		"more of none there":             {changed(plain(), api.Pod{Req: api.Vec{5}}), []int{0, 0, wait}, bind(2, 0), about(capOf, 0, 10), bind(2, 1), []int{0, 0, 1}},
		"terms":                          {changed(plain(), inX), []int{0, 1, wait}, bind(2, 1), about(where, 2, 1), bind(2, 0), []int{0, 1, 0}},
		"two terms":                      {changed(plain(), inX), []int{0, 1, wait}, bind(2, 2), about(where, 2, 2), bind(2, 0), []int{0, 1, 0}},
		"where it may not be":            {changed(plain(), inX), []int{0, wait, 2}, bind(1, 0), about(capOf, 0, 5), evict(2), []int{0, wait, wait}},
		"taints":                         {tainted, []int{2, wait, wait}, bind(2, 1), about(taint, 2, 2), bind(2, 0), []int{2, wait, 0}},
		"taints that others do not bear": {tainted, []int{0, 1, wait}, bind(2, 1), about(taint, 2, 2), evict(1), []int{0, wait, wait}},
		"company":                        {company, []int{0, 1, wait}, bind(2, 1), about(with, 2, 1), bind(2, 0), []int{0, 1, 0}},
		"company that goes":              {company, []int{0, 1, 0}, evict(0), about(with, 2, 1), evict(1), []int{0, wait, 0}},
		"no company anyhow":              {company, []int{0, wait, 1}, bind(1, 0), about(capOf, 0, 5), evict(0), []int{wait, wait, 1}},
		"apart":                          {changed(plain(), alone), []int{0, wait, wait}, bind(2, 0), about(apart, 2, 1), bind(2, 1), []int{0, wait, 1}},
		"apart of who comes":             {changed(plain(), alone), []int{0, wait, 1}, bind(1, 1), about(apart, 2, 1), bind(1, 2), []int{0, 2, 1}},
		"not apart already":              {changed(owned(api.Owner{}), alone), []int{0, wait, 0}, bind(1, 0), about(apart, 2, 2), bind(1, 1), []int{0, 1, 0}},
		"doubles":                        {owned(api.Owner{Single: true}), []int{0, 1, wait}, bind(2, 1), about(double, 1, 1), bind(2, 2), []int{0, 1, 2}},
		"triples":                        {owned(api.Owner{Single: true}), []int{1, 1, wait}, bind(2, 1), about(double, 0, 2), bind(2, 0), []int{1, 1, 0}},
		"skew":                           {owned(api.Owner{Topo: "zone", Skew: 1}), []int{0, 2, wait}, bind(2, 0), about(spread, 0, 1), bind(2, 1), []int{0, 2, 1}},
		"skew of who stays":              {owned(api.Owner{Topo: "zone", Skew: 1}), []int{0, 0, 1}, evict(2), about(spread, 0, 1), evict(1), []int{0, wait, 1}},
		"skew already":                   {owned(api.Owner{Topo: "zone", Skew: 1}), []int{0, 0, wait}, bind(2, 0), about(spread, 0, 2), bind(2, 2), []int{0, 0, 2}},
		"too few":                        {owned(api.Owner{Min: 2}), []int{0, 1, wait}, evict(1), about(least, 0, 1), bind(2, 1), []int{0, 1, 1}},
		"too few already":                {owned(api.Owner{Min: 3}), []int{0, 1, wait}, evict(0), about(least, 0, 2), bind(2, 1), []int{0, 1, 1}},
		"just enough":                    {owned(api.Owner{Min: 2}), []int{0, wait, 1}, evict(2), about(least, 0, 1), bind(1, 1), []int{0, 1, 1}},
	} {
		t.Run(what, func(t *testing.T) {
			checkNot(t, x.s, x.p, x.no, x.why, api.ErrStep)
			checkMakes(t, x.s, x.p, x.yes, x.becomes...)
		})
	}
}

// TestFirst (P10.1): of several clauses that are worse the first one is told: by kind, then A, then B; what is broken as it was is none of them.
func TestFirst(t *testing.T) {
	s, p := owned(api.Owner{Single: true, Topo: "zone", Skew: 1}), []int{1, 1, wait}
	x := &s.Pods[2]
	x.Req, x.Where, x.With, x.Apart = api.Vec{20, 0, 3, 2}, []api.Term{has("gpu")}, near("zone", has("app")), near("zone")
	s.Nodes[1].Taints = pairs("gpu", "1")
	for _, step := range []struct {
		why  api.Clause
		mend func()
	}{
		{about(capOf, 1, 7), func() { x.Req[api.Cpu] = 0 }},
		{api.Clause{Kind: capOf, A: 1, B: api.Disk, By: 3}, func() { x.Req[api.Disk] = 0 }},
		{api.Clause{Kind: capOf, A: 1, B: api.Slots, By: 2}, func() { x.Req[api.Slots] = 0 }},
		{about(where, 2, 1), func() { x.Where = nil }},
		{about(taint, 2, 1), func() { x.Bears = pairs("gpu", "*") }},
		{about(with, 2, 1), func() { x.With = api.Near{} }},
		{about(apart, 2, 2), func() { x.Apart = api.Near{} }},
		{about(double, 0, 2), func() { s.Owners[0].Single = false }},
		{about(spread, 0, 2), func() { s.Owners[0].Skew = 3 }},
	} {
		checkNot(t, s, p, bind(2, 1), step.why, api.ErrStep)
		step.mend()
	}
	checkMakes(t, s, p, bind(2, 1), 1, 1, 1)
}

// TestCordon (P10.1): nothing is bound on a node that is cordoned, whatever it makes worse; who is there may stay, and be taken off.
func TestCordon(t *testing.T) {
	s, p := example(), []int{0, 1, wait}
	s.Nodes[0].Cordon, s.Nodes[2].Cordon = true, true
	checkNot(t, s, p, bind(2, 2), api.Clause{}, api.ErrStep)
	checkNot(t, s, p, bind(2, 0), api.Clause{}, api.ErrStep)
	checkNot(t, s, p, bind(2, 1), about(capOf, 1, 5), api.ErrStep)
	checkMakes(t, s, p, evict(0), wait, 1, wait)
	checkMakes(t, s, p, evict(1), 0, wait, wait)
	checkMakes(t, s, []int{0, wait, wait}, bind(1, 1), 0, 1, wait)
	checkNot(t, s, p, bind(1, 0), api.Clause{}, api.ErrState)
	checkNot(t, s, []int{0, wait, wait}, evict(0), about(least, 0, 1), api.ErrStep)
	s.Nodes[2].Lost = true
	checkNot(t, s, p, bind(2, 2), api.Clause{}, api.ErrState)
}

// far lists numbers that are no places of so many.
func far(count int) []int {
	return []int{count, count + 1, -1, -2, math.MaxInt, math.MinInt, math.MaxInt32, 1 << 32}
}

// TestApplyErrors (P10.1, P10.2): place.Apply's error, with nothing else.
func TestApplyErrors(t *testing.T) {
	s, p := example(), []int{0, 1, wait}
	s.Nodes[2].Lost = true
	no := func(x api.Step, e api.Errno) {
		t.Helper()
		checkNot(t, s, p, x, api.Clause{}, e)
		checkRun(t, s, p, []api.Step{x}, nil, 0, e)
		checkRun(t, s, p, []api.Step{evict(0), bind(0, 0), x}, nil, 2, e)
	}
	for _, kind := range append(far(3), 0, 1<<32+1) {
		no(api.Step{Kind: kind}, api.ErrArg)
		no(api.Step{Kind: kind, Pod: 9, Node: 9}, api.ErrArg)
	}
	for _, i := range far(3) {
		no(evict(i), api.ErrRange)
		no(bind(i, 0), api.ErrRange)
		no(bind(2, i), api.ErrRange)
		no(bind(0, i), api.ErrRange)
		checkWays(t, s, p, i)
	}
	no(api.Step{Kind: api.StepEvict, Node: 1}, api.ErrRange)
	no(evict(2), api.ErrState)
	no(bind(0, 0), api.ErrState)
	no(bind(0, 1), api.ErrState)
	no(bind(2, 2), api.ErrState)
}

// TestNoPlacement (P10.1, P10.2): place.Check's error, ahead of what is wrong with the steps; of Run at 0.
func TestNoPlacement(t *testing.T) {
	for what, x := range map[string]struct {
		change func(s *api.Snap)
		p      []int
		e      api.Errno
	}{
		"no numbers":            {func(*api.Snap) {}, nil, api.ErrArg},
		"a number too few":      {func(*api.Snap) {}, []int{0, 1}, api.ErrArg},
		"a number too many":     {func(*api.Snap) {}, []int{0, 1, wait, wait}, api.ErrArg},
		"no node":               {func(*api.Snap) {}, []int{0, 3, wait}, api.ErrArg},
		"below -1":              {func(*api.Snap) {}, []int{0, -2, wait}, api.ErrArg},
		"far too many":          {func(*api.Snap) {}, make([]int, 100000), api.ErrArg},
		"on a lost node":        {func(s *api.Snap) { s.Nodes[1].Lost = true }, []int{0, 1, wait}, api.ErrArg},
		"nodes that fall":       {func(s *api.Snap) { slices.Reverse(s.Nodes) }, []int{0, 1, wait}, api.ErrSnap},
		"an owner that is none": {func(s *api.Snap) { s.Owners = nil }, []int{0, 1, wait}, api.ErrSnap},
		"sums that go too far":  {func(s *api.Snap) { s.Pods[0].Req[1], s.Pods[2].Req[1] = most, 1 }, []int{0, 1, wait}, api.ErrOver},
		"both":                  {func(s *api.Snap) { s.Owners[0].Min = -1 }, []int{9}, api.ErrSnap},
	} {
		t.Run(what, func(t *testing.T) {
			s := example()
			x.change(&s)
			for _, step := range []api.Step{evict(0), bind(2, 2), bind(2, 0), bind(9, 9), {}} {
				checkNot(t, s, x.p, step, api.Clause{}, x.e)
				checkRun(t, s, x.p, []api.Step{step}, nil, 0, x.e)
				checkRun(t, s, x.p, []api.Step{step, {Kind: 9}}, nil, 0, x.e)
			}
			checkRun(t, s, x.p, nil, nil, 0, x.e)
			for pod := -1; pod <= 3; pod++ {
				checkWays(t, s, x.p, pod)
			}
		})
	}
	many := api.Snap{Nodes: make([]api.Node, 9)}
	checkRun(t, many, nil, nil, nil, 0, api.ErrSnap)
	checkNot(t, many, nil, evict(0), api.Clause{}, api.ErrSnap)
	checkWays(t, many, nil, 0)
}

// TestWays (P10.2): the nodes, rising, that are not lost, not cordoned, and on which nothing gets worse; of a pod that waits alone.
func TestWays(t *testing.T) {
	s := owned(api.Owner{Topo: "zone", Skew: 1})
	checkWays(t, s, []int{wait, wait, wait}, 1, 0, 1, 2)
	checkWays(t, s, []int{wait, 0, wait}, 1)
	checkWays(t, s, []int{0, wait, wait}, 1, 1, 2)
	s.Nodes[1].Cordon = true
	checkWays(t, s, []int{0, wait, wait}, 1, 2)
	checkWays(t, s, []int{wait, 1, wait}, 1)
	s.Nodes[1].Cordon, s.Nodes[2].Lost = false, true
	checkWays(t, s, []int{0, wait, wait}, 1, 1)
	checkWays(t, s, []int{0, 1, wait}, 2, 0, 1)
	s.Nodes[1].Lost = true
	checkWays(t, s, []int{0, wait, wait}, 1, 0)
	s.Nodes[0].Lost = true
	checkWays(t, s, []int{wait, wait, wait}, 1)
	checkWays(t, api.Snap{Pods: []api.Pod{{Name: "p"}}}, []int{wait}, 0)
	checkWays(t, api.Snap{}, nil, 0)
}

// TestRun (P10.2): where the steps lead, each one done where those ahead of it have led; the first one's error that has one, and its place.
func TestRun(t *testing.T) {
	s, p := example(), []int{0, 1, wait}
	checkRun(t, s, p, nil, p, 0, api.OK)
	checkRun(t, s, p, []api.Step{}, p, 0, api.OK)
	checkRun(t, s, p, []api.Step{bind(2, 2)}, []int{0, 1, 2}, 1, api.OK)
	all := []api.Step{evict(0), bind(2, 0), evict(1), bind(0, 1), bind(1, 2)}
	checkRun(t, s, p, all, []int{1, 2, 0}, 5, api.OK)
	checkRun(t, s, []int{wait, wait, wait}, []api.Step{bind(1, 2), bind(0, 0), bind(2, 1)}, []int{0, 2, 1}, 3, api.OK)
	checkRun(t, s, p, []api.Step{bind(2, 0), {}}, nil, 0, api.ErrStep)
	checkRun(t, s, p, append(all, evict(0), evict(0), bind(9, 9)), nil, 6, api.ErrState)
	checkRun(t, s, p, append(all, evict(3), bind(0, 0)), nil, 5, api.ErrRange)
	checkRun(t, s, p, append(all, api.Step{Kind: 3}), nil, 5, api.ErrArg)
	checkRun(t, s, p, append(all, evict(0), evict(1), evict(2)), nil, 7, api.ErrStep)
	s.Nodes[1].Cordon = true
	checkRun(t, s, p, all, nil, 3, api.ErrStep)
	checkRun(t, api.Snap{}, nil, nil, nil, 0, api.OK)
	checkRun(t, api.Snap{}, nil, []api.Step{evict(0)}, nil, 0, api.ErrRange)
}
