package admit_test

import (
	"slices"
	"testing"

	"drayage/admit"
	"drayage/api"
	"drayage/clause"
	"drayage/place"
	"drayage/safe"
)

// mild takes from a cluster most kinds of what is asked for, so that more steps may be done, and each kind is alone against some.
func (m maker) mild(s api.Snap) {
	isAsked := func() bool { return m.Intn(4) == 0 }
	room, terms, taints, company, apart := isAsked(), isAsked(), isAsked(), isAsked(), isAsked()
	for pod := range s.Pods {
		x := &s.Pods[pod]
		if !room {
			x.Req = m.row(2)
		}
		if !terms {
			x.Where = nil
		}
		if !taints {
			x.Bears = pairs("gpu", "*", "old", "*")
		}
		if !company || m.is() {
			x.With = api.Near{}
		}
		if !apart || m.is() {
			x.Apart = api.Near{}
		}
	}
	single, skew, least := isAsked(), isAsked(), isAsked()
	for owner := range s.Owners {
		x := &s.Owners[owner]
		x.Single = x.Single && single
		if !skew {
			x.Topo, x.Skew = "", 0
		}
		if !least {
			x.Min = 0
		}
	}
	for node := range s.Nodes {
		s.Nodes[node].Cordon = m.Intn(6) == 0
	}
}

// thinned lets more pods of a placement wait.
func (m maker) thinned(p []int) []int {
	q := slices.Clone(p)
	for pod := range q {
		if m.is() {
			q[pod] = wait
		}
	}
	return q
}

// eachMild goes through so many clusters of which most are mild, each with a placement.
func eachMild(t *testing.T, seed int64, count int, f func(m maker, s api.Snap, p []int)) {
	t.Helper()
	m := random(seed)
	eachCluster(t, count, func(s api.Snap, p []int) {
		if m.Intn(5) > 0 {
			m.mild(s)
		}
		if m.is() {
			p = m.thinned(p)
		}
		f(m, s, p)
	})
}

// steps lists all that place.Apply does, and as many others.
func steps(s api.Snap) (l []api.Step) {
	for pod := -1; pod <= len(s.Pods); pod++ {
		l = append(l, evict(pod), api.Step{Kind: api.StepEvict, Pod: pod, Node: 1}, api.Step{Pod: pod}, api.Step{Kind: 3, Pod: pod})
		for node := -1; node <= len(s.Nodes); node++ {
			l = append(l, bind(pod, node))
		}
	}
	return l
}

// step picks one of pods and nodes that there are: the cluster has some of each.
func (m maker) step(s api.Snap) api.Step {
	pod, node := m.Intn(len(s.Pods)), m.Intn(len(s.Nodes))
	if m.Intn(3) == 0 {
		return evict(pod)
	}
	return bind(pod, node)
}

// byOf tells by how much each clause of a placement is broken.
func byOf(t *testing.T, s api.Snap, p []int) map[[3]int]int {
	t.Helper()
	l, e := clause.All(s, p)
	if e != api.OK {
		t.Fatalf("All(%v, %v): %d", s, p, e)
	}
	by := map[[3]int]int{}
	for _, c := range l {
		by[[3]int{c.Kind, c.A, c.B}] = c.By
	}
	return by
}

// worse lists, by the words of chapter 9, what is broken by more in q than by what is told of the placement ahead.
func worse(s api.Snap, ahead map[[3]int]int, q []int) (l []api.Clause) {
	all, _ := clause.All(s, q)
	for _, c := range all {
		if c.By > ahead[[3]int{c.Kind, c.A, c.B}] {
			l = append(l, c)
		}
	}
	return l
}

// TestAgainstWords (P10.1, P10.2): of clusters made at random, all steps, and a few that are none, against the chapter's words; each kind of clause stands against some.
func TestAgainstWords(t *testing.T) {
	kinds, may := map[int]int{}, 0
	eachMild(t, 1, 300, func(_ maker, s api.Snap, p []int) {
		ahead := byOf(t, s, p)
		ways := make([][]int, len(s.Pods))
		for _, x := range steps(s) {
			q, e := place.Apply(s, p, x)
			switch {
			case e != api.OK:
				checkNot(t, s, p, x, api.Clause{}, e)
			case x.Kind == api.StepBind && s.Nodes[x.Node].Cordon:
				checkNot(t, s, p, x, api.Clause{}, api.ErrStep)
			default:
				if l := worse(s, ahead, q); len(l) > 0 {
					checkNot(t, s, p, x, l[0], api.ErrStep)
					kinds[l[0].Kind]++
					continue
				}
				checkMakes(t, s, p, x, q...)
				may++
				if x.Kind == api.StepBind {
					ways[x.Pod] = append(ways[x.Pod], x.Node)
				}
			}
		}
		for pod, want := range ways {
			checkWays(t, s, p, pod, want...)
		}
	})
	for kind := capOf; kind <= least; kind++ {
		if kinds[kind] < 10 {
			t.Errorf("only %d clauses of kind %d stand against a step", kinds[kind], kind)
		}
	}
	if may < 1000 {
		t.Errorf("only %d steps may be done", may)
	}
}

// TestRows (P10.2): of rows of steps made at random Run tells what Step tells of each.
func TestRows(t *testing.T) {
	whole, cut := 0, 0
	eachMild(t, 2, 200, func(m maker, s api.Snap, p []int) {
		if len(s.Pods) == 0 || len(s.Nodes) == 0 {
			return
		}
		var l []api.Step
		q, at, e := slices.Clone(p), 0, api.OK
		for e == api.OK && len(l) < 15 {
			x := m.step(s)
			if !admit.May(s, q, x) && m.Intn(60) > 0 {
				continue
			}
			at, l = len(l), append(l, x)
			q, _, e = admit.Step(s, q, x)
		}
		if e != api.OK {
			checkRun(t, s, p, append(l, steps(s)...), nil, at, e)
			cut++
			return
		}
		checkRun(t, s, p, l, q, len(l), api.OK)
		whole++
	})
	if whole < 20 || cut < 50 {
		t.Errorf("%d rows are whole, and %d are not: too few", whole, cut)
	}
}

// TestNeverWorse (P10.4): whatever steps are done that may be, no clause is broken by more than at first; from a safe placement each one is safe.
func TestNeverWorse(t *testing.T) {
	done, safeOnes := 0, 0
	eachMild(t, 3, 200, func(m maker, s api.Snap, p []int) {
		first := byOf(t, s, p)
		wasSafe, _ := safe.Safe(s, p)
		if len(s.Pods) == 0 || len(s.Nodes) == 0 {
			return
		}
		for range 60 {
			q, _, e := admit.Step(s, p, m.step(s))
			if e != api.OK {
				continue
			}
			p, done = q, done+1
			if l := worse(s, first, p); len(l) > 0 {
				t.Fatalf("%v: %v is broken by more in %v than at first", s, l, p)
			}
			isSafe, _ := safe.Safe(s, p)
			if wasSafe && !isSafe {
				t.Fatalf("%v: %v is not safe any more", s, p)
			}
			if wasSafe {
				safeOnes++
			}
			wasSafe = isSafe
		}
	})
	if done < 1000 || safeOnes < 200 {
		t.Errorf("%d steps were done, %d of them from safe placements: too few", done, safeOnes)
	}
}

// TestWhatIsWorse (P10.5): what stands against a step is about its pod, its node, its pod's owner, a pod that asks for somebody near, or one of that owner.
func TestWhatIsWorse(t *testing.T) {
	told := map[int]int{}
	eachMild(t, 5, 200, func(_ maker, s api.Snap, p []int) {
		for _, x := range steps(s) {
			_, why, _ := admit.Step(s, p, x)
			if why == (api.Clause{}) {
				continue
			}
			node, owner := x.Node, s.Pods[x.Pod].Owner
			if x.Kind == api.StepEvict {
				node = p[x.Pod]
			}
			is := false
			switch why.Kind {
			case capOf:
				is = why.A == node
			case with, apart:
				is = true
			case double:
				is = s.Pods[why.A].Owner == owner
			case spread, least:
				is = s.Owners[why.A].Name == owner
			default:
				is = why.A == x.Pod
			}
			if !is {
				t.Fatalf("%v, %v: %v makes %v worse", s, p, x, why)
			}
			if why.A != x.Pod {
				told[why.Kind]++
			}
		}
	})
	for _, kind := range []int{with, apart, double} {
		if told[kind] == 0 {
			t.Errorf("no clause of kind %d of another pod stands against a step", kind)
		}
	}
}

// TestBack (P10.6): what was bound may be taken off again, if all held ahead, a cordon on its node or not.
func TestBack(t *testing.T) {
	bound := 0
	eachMild(t, 4, 200, func(m maker, s api.Snap, p []int) {
		for owner := range s.Owners {
			s.Owners[owner].Min = 0
		}
		p = slices.Repeat([]int{wait}, len(p))
		for range 30 {
			if isSafe, _ := safe.Safe(s, p); !isSafe {
				t.Fatalf("%v: %v is not safe", s, p)
			}
			if len(p) == 0 || len(s.Nodes) == 0 {
				return
			}
			x := bind(m.Intn(len(p)), m.Intn(len(s.Nodes)))
			q, _, e := admit.Step(s, p, x)
			if e != api.OK {
				continue
			}
			checkMakes(t, s, q, evict(x.Pod), p...)
			s.Nodes[x.Node].Cordon = true
			checkMakes(t, s, q, evict(x.Pod), p...)
			s.Nodes[x.Node].Cordon = false
			p, bound = q, bound+1
		}
	})
	if bound < 500 {
		t.Errorf("only %d were bound", bound)
	}
}
