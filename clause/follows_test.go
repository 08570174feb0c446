package clause_test

import (
	"slices"
	"testing"

	"drayage/api"
	"drayage/clause"
	"drayage/place"
)

// wordsOf reckons a clause by the words of the chapter's table; nothing, if there is none such.
func wordsOf(s api.Snap, p []int, kind, a, b int) int {
	switch {
	case a < 0 || b < 0 || kind != capOf && b != 0:
	case kind == capOf && a < len(s.Nodes) && b < api.Kinds:
		return max(0, place.Used(s, p, a)[b]-s.Nodes[a].Cap[b])
	case kind >= where && kind <= double && a < len(s.Pods) && p[a] != wait:
		return wordsOfPod(s, p, kind, a)
	case kind == spread && a < len(s.Owners) && s.Owners[a].Topo != "":
		return skewOf(s, p, a)
	case kind == least && a < len(s.Owners):
		return max(0, s.Owners[a].Min-placed(s, p, func(pod int) bool { return s.Pods[pod].Owner == s.Owners[a].Name }))
	}
	return nothing
}

func wordsOfPod(s api.Snap, p []int, kind, pod int) int {
	x, n := s.Pods[pod], s.Nodes[p[pod]]
	switch {
	case kind == where:
		return countOf(x.Where, func(term api.Term) bool { return !holds(term, n.Labels) })
	case kind == taint:
		return countOf(n.Taints, func(l api.Label) bool {
			return !slices.Contains(x.Bears, l) && !slices.Contains(x.Bears, api.Label{Key: l.Key, Value: "*"})
		})
	case kind == with && x.With.Topo != "":
		if placed(s, p, func(other int) bool { return isNear(s, p, pod, other, x.With) }) > 0 {
			return 0
		}
		return 1
	case kind == apart && x.Apart.Topo != "":
		return placed(s, p, func(other int) bool { return other != pod && isNear(s, p, pod, other, x.Apart) })
	case kind == double && countOf(s.Owners, func(o api.Owner) bool { return o.Name == x.Owner && o.Single }) == 1:
		return placed(s, p, func(other int) bool { return other != pod && p[other] == p[pod] && s.Pods[other].Owner == x.Owner })
	}
	return nothing
}

// skewOf counts by domains, and by pods in each.
func skewOf(s api.Snap, p []int, owner int) int {
	o, worst := s.Owners[owner], 0
	in := func(domain string) int {
		return placed(s, p, func(pod int) bool {
			value, is := place.Domain(s, p[pod], o.Topo)
			return is && value == domain && s.Pods[pod].Owner == o.Name
		})
	}
	for _, full := range place.Domains(s, o.Topo) {
		for _, empty := range place.Domains(s, o.Topo) {
			worst = max(worst, in(full)-in(empty)-o.Skew)
		}
	}
	return worst
}

func countOf[T any](l []T, isSo func(x T) bool) (n int) {
	for _, x := range l {
		if isSo(x) {
			n++
		}
	}
	return n
}

// placed counts pods that do not wait.
func placed(s api.Snap, p []int, isSo func(pod int) bool) (n int) {
	for pod := range s.Pods {
		if p[pod] != wait && isSo(pod) {
			n++
		}
	}
	return n
}

// isNear tells whether one pod is near another one's node, and of the terms.
func isNear(s api.Snap, p []int, pod, other int, n api.Near) bool {
	here, is := place.Domain(s, p[pod], n.Topo)
	there, isToo := place.Domain(s, p[other], n.Topo)
	return is && isToo && here == there && countOf(n.Terms, func(term api.Term) bool { return !holds(term, s.Pods[other].Labels) }) == 0
}

func holds(term api.Term, l []api.Label) bool {
	hasKey := countOf(l, func(x api.Label) bool { return x.Key == term.Key }) > 0
	hasBoth := slices.Contains(l, api.Label{Key: term.Key, Value: term.Value})
	return []bool{hasBoth, !hasBoth, hasKey, !hasKey}[term.Kind-1]
}

// TestAgainstWords (P8.1, P8.2): of clusters made at random, all clauses that there are, and a little more, against the chapter's words; each kind is there, holds, and is broken.
func TestAgainstWords(t *testing.T) {
	hold, broken := map[int]int{}, map[int]int{}
	eachCluster(t, 100, func(s api.Snap, p []int) {
		var want []api.Clause
		for kind := -1; kind <= api.LastClause+1; kind++ {
			for a := -1; a <= api.MaxPods; a++ {
				for b := -1; b <= api.Kinds; b++ {
					by := wordsOf(s, p, kind, a, b)
					checkOf(t, s, p, kind, a, b, by)
					if by != nothing {
						want = append(want, api.Clause{Kind: kind, A: a, B: b, By: by})
					}
				}
			}
		}
		checkAll(t, s, p, want)
		for _, c := range want {
			if c.By == 0 {
				hold[c.Kind]++
			} else {
				broken[c.Kind]++
			}
		}
	})
	t.Log("by kind, hold", hold, "and are broken", broken)
	for kind := capOf; kind <= least; kind++ {
		if hold[kind] < 10 || broken[kind] < 10 {
			t.Errorf("of kind %d, %d that hold and %d that are broken are too few", kind, hold[kind], broken[kind])
		}
	}
}

// TestTakenOff (P8.4): a pod that is taken off breaks nothing that is of its node, or asks for nobody to be there, by more.
func TestTakenOff(t *testing.T) {
	kinds := []int{capOf, where, taint, apart, double}
	eachCluster(t, 150, func(s api.Snap, p []int) {
		for pod := range p {
			q := slices.Clone(p)
			q[pod] = wait
			for _, c := range all(t, s, q) {
				if by, _ := clause.Of(s, p, c.Kind, c.A, c.B); slices.Contains(kinds, c.Kind) && c.By > by {
					t.Fatalf("%v, %v: without the pod %d %v is broken by more than %d", s, p, pod, c, by)
				}
			}
		}
	})
}

// TestAllWait (P8.5): nothing is broken but what asks for pods.
func TestAllWait(t *testing.T) {
	eachCluster(t, 300, func(s api.Snap, p []int) {
		var want []api.Clause
		for owner, o := range s.Owners {
			if o.Min > 0 {
				want = append(want, api.Clause{Kind: least, A: owner, By: o.Min})
			}
		}
		for pod := range p {
			p[pod] = wait
		}
		if l := clause.Broken(s, p); !slices.Equal(l, want) {
			t.Fatalf("Broken(%v, %v): %v, not %v", s, p, l, want)
		}
	})
}

func all(t *testing.T, s api.Snap, p []int) []api.Clause {
	t.Helper()
	l, e := clause.All(s, p)
	if e != api.OK {
		t.Fatalf("All(%v, %v): %d", s, p, e)
	}
	return l
}
