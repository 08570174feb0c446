package admit_test

import (
	"fmt"
	"slices"
	"testing"

	"drayage/admit"
	"drayage/api"
)

// spare gives a list spare room, with something in it.
func spare[T any](l []T, more T) []T {
	l = append(slices.Clip(l), more)
	return l[:len(l)-1]
}

// roomy makes a cluster whose lists have spare room.
func roomy() api.Snap {
	s, label, term := example(), api.Label{Key: "zz", Value: "spare"}, has("spare")
	for i := range s.Nodes {
		n := &s.Nodes[i]
		n.Labels, n.Taints = spare(n.Labels, label), spare(n.Taints, label)
	}
	for i := range s.Pods {
		p := &s.Pods[i]
		p.With, p.Apart = near("zone", has("app")), near("zone", has("app"))
		p.Labels, p.Bears, p.Where = spare(p.Labels, label), spare(p.Bears, label), spare(p.Where, term)
		p.With.Terms, p.Apart.Terms = spare(p.With.Terms, term), spare(p.Apart.Terms, term)
	}
	s.Nodes = spare(s.Nodes, api.Node{Name: "zz", Labels: pairs("zone", "spare")})
	s.Pods = spare(s.Pods, api.Pod{Name: "zz", Owner: "o", Req: api.Vec{77}})
	s.Owners = spare(s.Owners, api.Owner{Name: "zz", Min: 1})
	return s
}

// whole tells all of a cluster, its spare room too.
func whole(s api.Snap) string {
	s.Nodes, s.Pods, s.Owners = s.Nodes[:cap(s.Nodes)], s.Pods[:cap(s.Pods)], s.Owners[:cap(s.Owners)]
	text := fmt.Sprintf("%#v", s)
	for _, n := range s.Nodes {
		text += fmt.Sprint(n.Labels[:cap(n.Labels)], n.Taints[:cap(n.Taints)])
	}
	for _, p := range s.Pods {
		text += fmt.Sprint(p.Labels[:cap(p.Labels)], p.Bears[:cap(p.Bears)], p.Where[:cap(p.Where)], p.With.Terms[:cap(p.With.Terms)], p.Apart.Terms[:cap(p.Apart.Terms)])
	}
	return text
}

// TestOnlyRead (P10.3): nothing that is handed in is changed, its spare room neither, be there an error or not.
func TestOnlyRead(t *testing.T) {
	turned := roomy()
	slices.Reverse(turned.Nodes)
	for _, s := range []api.Snap{roomy(), turned, {}} {
		before := whole(s)
		for _, row := range [][]int{{0, 1, wait}, {wait, wait, wait}, {2, 2, 2}, {0, 0, 9}, {1}} {
			for _, first := range []api.Step{evict(0), bind(2, 2), bind(0, 1), {Kind: 7}} {
				p, l := spare(row, 4), spare([]api.Step{first, evict(1)}, bind(1, 1))
				for _, x := range l {
					admit.Step(s, p, x)
					admit.May(s, p, x)
					admit.Ways(s, p, x.Pod)
				}
				admit.Run(s, p, l)
				admit.Run(s, p, l[:0])
				if !slices.Equal(p[:len(p)+1], append(row, 4)) {
					t.Errorf("the placement %v was changed to %v", row, p[:len(p)+1])
				}
				if !slices.Equal(l[:len(l)+1], []api.Step{first, evict(1), bind(1, 1)}) {
					t.Errorf("the steps were changed to %v", l[:len(l)+1])
				}
			}
		}
		if after := whole(s); after != before {
			t.Errorf("the cluster was changed: %s, now %s", before, after)
		}
	}
}

// TestNewMemory (P10.3): an answer that is written to changes neither what was handed in, nor a later answer; of Run without steps, too.
func TestNewMemory(t *testing.T) {
	s, p := example(), []int{0, 1, wait}
	overwrite := func(l []int) {
		for i := range l[:cap(l)] {
			l[:cap(l)][i] = 77
		}
	}
	for range 2 {
		q, _, _ := admit.Step(s, p, bind(2, 2))
		overwrite(q)
		overwrite(admit.Ways(s, p, 2))
		for _, l := range [][]api.Step{nil, {evict(0)}, {evict(0), bind(0, 0)}} {
			q, _, _ := admit.Run(s, p, l)
			overwrite(q)
		}
		checkMakes(t, s, p, bind(2, 2), 0, 1, 2)
		checkWays(t, s, p, 2, 2)
		checkRun(t, s, []int{0, 1, wait}, nil, p, 0, api.OK)
		checkRun(t, s, p, []api.Step{evict(0)}, []int{wait, 1, wait}, 1, api.OK)
	}
}

// TestSameAnswer (R2): what is answered hangs on the arguments alone: the On of pods, which is not the placement, changes nothing, nor do earlier calls.
func TestSameAnswer(t *testing.T) {
	s, p := example(), []int{0, 1, wait}
	for i := range 50 {
		for pod := range s.Pods {
			s.Pods[pod].On = []string{"", "b", "c"}[(pod+i)%3]
		}
		checkMakes(t, s, p, bind(2, 2), 0, 1, 2)
		checkNot(t, s, p, bind(2, 0), about(capOf, 0, 5), api.ErrStep)
		checkWays(t, s, p, 2, 2)
		checkRun(t, s, p, []api.Step{evict(0), evict(1), bind(2, 0)}, nil, 1, api.ErrStep)
	}
}
