package clause_test

import (
	"fmt"
	"slices"
	"testing"

	"drayage/api"
	"drayage/clause"
)

// spare gives a list spare room, with something in it.
func spare[T any](l []T, more T) []T {
	l = append(slices.Clip(l), more)
	return l[:len(l)-1]
}

// roomy makes a cluster whose lists have spare room.
func roomy() api.Snap {
	s, label, term := full(), api.Label{Key: "zz", Value: "spare"}, has("spare")
	for i := range s.Nodes {
		n := &s.Nodes[i]
		n.Labels, n.Taints = spare(n.Labels, label), spare(n.Taints, label)
	}
	for i := range s.Pods {
		p := &s.Pods[i]
		p.Labels, p.Bears, p.Where = spare(p.Labels, label), spare(p.Bears, label), spare(p.Where, term)
		p.With.Terms, p.Apart.Terms = spare(p.With.Terms, term), spare(p.Apart.Terms, term)
	}
	s.Nodes = spare(s.Nodes, api.Node{Name: "zz", Labels: pairs("zone", "spare")})
	s.Pods = spare(s.Pods, api.Pod{Name: "zz", Owner: "web", Req: api.Vec{77}})
	s.Owners = spare(s.Owners, api.Owner{Name: "zz", Min: 1})
	return s
}

// whole tells all of a cluster, its spare room too.
func whole(s api.Snap) string {
	s.Nodes, s.Pods, s.Owners = s.Nodes[:cap(s.Nodes)], s.Pods[:cap(s.Pods)], s.Owners[:cap(s.Owners)]
	text := fmt.Sprintf("%#v", s)
	for _, n := range s.Nodes {
		text += fmt.Sprint(n.Labels[:cap(n.Labels)], n.Taints[:cap(n.Taints)])
	}
	for _, p := range s.Pods {
		text += fmt.Sprint(p.Labels[:cap(p.Labels)], p.Bears[:cap(p.Bears)], p.Where[:cap(p.Where)], p.With.Terms[:cap(p.With.Terms)], p.Apart.Terms[:cap(p.Apart.Terms)])
	}
	return text
}

// TestOnlyRead (P8.3): nothing that is handed in is changed, its spare room neither, be there an error or not.
func TestOnlyRead(t *testing.T) {
	turned := roomy()
	slices.Reverse(turned.Pods)
	for _, s := range []api.Snap{roomy(), turned, {}} {
		before := whole(s)
		for _, row := range [][]int{{0, 0, 2, 0, wait, wait}, {wait, 0, 0, 4, 4, 3}, {1, 1, 1, 1, 1, 1}, {5}} {
			p := spare(row, 4)
			clause.All(s, p)
			clause.Broken(s, p)
			for i := -1; i < 7; i++ {
				clause.Pod(s, p, i)
				for kind := range api.LastClause + 2 {
					clause.Of(s, p, kind, i, 0)
				}
			}
			if !slices.Equal(p[:len(p)+1], append(row, 4)) {
				t.Errorf("the placement %v was changed to %v", row, p[:len(p)+1])
			}
		}
		if after := whole(s); after != before {
			t.Errorf("the cluster was changed: %s, now %s", before, after)
		}
	}
}

// TestNewMemory (P8.3): an answer that is written to changes no later one.
func TestNewMemory(t *testing.T) {
	s, p := full(), []int{0, 0, 2, 0, 4, wait}
	tell := func() [][]api.Clause {
		l, _ := clause.All(s, p)
		return [][]api.Clause{l, clause.Broken(s, p), clause.Pod(s, p, 3)}
	}
	before := fmt.Sprint(tell())
	for _, l := range tell() {
		for i := range l[:cap(l)] {
			l[:cap(l)][i] = api.Clause{Kind: 9, A: 9, B: 9, By: 9}
		}
	}
	if after := fmt.Sprint(tell()); after != before {
		t.Errorf("%s, and once answers were written to %s", before, after)
	}
}

// TestSameAnswer (R2): what is answered hangs on the arguments alone: the On of pods, which is not the placement, changes nothing, nor does a map's order.
func TestSameAnswer(t *testing.T) {
	s, p := full(), []int{0, 0, 2, 0, 4, wait}
	want := all(t, s, p)
	for range 100 {
		for pod := range s.Pods {
			s.Pods[pod].On = []string{"", "n4", "n0"}[pod%3]
		}
		checkAll(t, s, p, want)
	}
}
