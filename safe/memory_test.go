package safe_test

import (
	"fmt"
	"slices"
	"testing"

	"drayage/api"
	"drayage/safe"
)

// spare gives a list spare room, with something in it.
func spare[T any](l []T, more T) []T {
	l = append(slices.Clip(l), more)
	return l[:len(l)-1]
}

// roomy makes a cluster whose lists have spare room.
func roomy() api.Snap {
	s, label, term := example(), api.Label{Key: "zz", Value: "spare"}, has("spare")
	for i := range s.Nodes {
		n := &s.Nodes[i]
		n.Labels, n.Taints = spare(n.Labels, label), spare(n.Taints, label)
	}
	for i := range s.Pods {
		p := &s.Pods[i]
		p.With, p.Apart = near("zone", has("app")), near("zone", has("app"))
		p.Labels, p.Bears, p.Where = spare(p.Labels, label), spare(p.Bears, label), spare(p.Where, term)
		p.With.Terms, p.Apart.Terms = spare(p.With.Terms, term), spare(p.Apart.Terms, term)
	}
	s.Nodes = spare(s.Nodes, api.Node{Name: "zz", Labels: pairs("zone", "spare")})
	s.Pods = spare(s.Pods, api.Pod{Name: "zz", Owner: "o", Req: api.Vec{77}})
	s.Owners = spare(s.Owners, api.Owner{Name: "zz", Min: 1})
	return s
}

// whole tells all of a cluster, its spare room too.
func whole(s api.Snap) string {
	s.Nodes, s.Pods, s.Owners = s.Nodes[:cap(s.Nodes)], s.Pods[:cap(s.Pods)], s.Owners[:cap(s.Owners)]
	text := fmt.Sprintf("%#v", s)
	for _, n := range s.Nodes {
		text += fmt.Sprint(n.Labels[:cap(n.Labels)], n.Taints[:cap(n.Taints)])
	}
	for _, p := range s.Pods {
		text += fmt.Sprint(p.Labels[:cap(p.Labels)], p.Bears[:cap(p.Bears)], p.Where[:cap(p.Where)], p.With.Terms[:cap(p.With.Terms)], p.Apart.Terms[:cap(p.Apart.Terms)])
	}
	return text
}

// TestOnlyRead (P9.2): nothing that is handed in is changed, its spare room neither, be there an error or not.
func TestOnlyRead(t *testing.T) {
	turned := roomy()
	slices.Reverse(turned.Nodes)
	for _, s := range []api.Snap{roomy(), turned, {}} {
		before := whole(s)
		for _, row := range [][]int{{0, 1, 2}, {0, 0, wait}, {0, 0, 9}, {1}} {
			for _, other := range [][]int{{0, 1, 2}, {0, 0, 0}, {9}} {
				p, q := spare(row, 4), spare(other, 5)
				safe.Safe(s, p)
				safe.Sum(s, p)
				safe.Worse(s, p, q)
				if !slices.Equal(p[:len(p)+1], append(row, 4)) || !slices.Equal(q[:len(q)+1], append(other, 5)) {
					t.Errorf("the placements %v, %v were changed to %v, %v", row, other, p[:len(p)+1], q[:len(q)+1])
				}
			}
		}
		if after := whole(s); after != before {
			t.Errorf("the cluster was changed: %s, now %s", before, after)
		}
	}
}

// TestNewMemory (P9.2): an answer that is written to changes no later one.
func TestNewMemory(t *testing.T) {
	s, p, q := example(), []int{0, 1, 2}, []int{0, 0, 2}
	before := worse(t, s, p, q)
	l := worse(t, s, p, q)
	for i := range l[:cap(l)] {
		l[:cap(l)][i] = api.Clause{Kind: 9, A: 9, B: 9, By: 9}
	}
	checkWorse(t, s, p, q, before...)
}

// TestSameAnswer (R2): what is answered hangs on the arguments alone: the On of pods, which is not the placement, changes nothing, nor does a map's order.
func TestSameAnswer(t *testing.T) {
	s, p, q := example(), []int{0, 0, 2}, []int{1, 1, 1}
	want := worse(t, s, p, q)
	for i := range 100 {
		for pod := range s.Pods {
			s.Pods[pod].On = []string{"", "b", "c"}[(pod+i)%3]
		}
		checkWorse(t, s, p, q, want...)
		checkSum(t, s, p, 2)
		checkSafe(t, s, p, false)
	}
}
