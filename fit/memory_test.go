package fit_test

import (
	"fmt"
	"slices"
	"testing"

	"drayage/api"
	"drayage/fit"
)

// spare gives a list spare room, with something in it.
func spare[T any](l []T, more T) []T {
	l = append(slices.Clip(l), more)
	return l[:len(l)-1]
}

// roomy makes full's cluster, with lists that have spare room.
func roomy() api.Snap {
	s, label, term := full(), api.Label{Key: "zz"}, api.Term{Kind: 3, Key: "zz"}
	for i := range s.Nodes {
		n := &s.Nodes[i]
		n.Labels, n.Taints = spare(n.Labels, label), spare(n.Taints, label)
	}
	for i := range s.Pods {
		p := &s.Pods[i]
		p.Labels, p.Bears, p.Where = spare(p.Labels, label), spare(p.Bears, label), spare(p.Where, term)
		p.With.Terms, p.Apart.Terms = spare(p.With.Terms, term), spare(p.Apart.Terms, term)
	}
	s.Nodes = spare(s.Nodes, api.Node{Name: "zz"})
	s.Pods = spare(s.Pods, api.Pod{Name: "zz"})
	s.Owners = spare(s.Owners, api.Owner{Name: "zz"})
	return s
}

// whole tells all that is handed in, the spare room of its lists too.
func whole(s api.Snap, p, pods []int) string {
	s.Nodes, s.Pods, s.Owners = s.Nodes[:cap(s.Nodes)], s.Pods[:cap(s.Pods)], s.Owners[:cap(s.Owners)]
	text := fmt.Sprintf("%#v%v%v", s, p[:cap(p)], pods[:cap(pods)])
	for _, n := range s.Nodes {
		text += fmt.Sprint(n.Labels[:cap(n.Labels)], n.Taints[:cap(n.Taints)])
	}
	for _, p := range s.Pods {
		text += fmt.Sprint(p.Labels[:cap(p.Labels)], p.Bears[:cap(p.Bears)], p.Where[:cap(p.Where)], p.With.Terms[:cap(p.With.Terms)], p.Apart.Terms[:cap(p.Apart.Terms)])
	}
	return text
}

// tell makes each call, and says in words all that is answered.
func tell(s api.Snap, p, pods []int) string {
	q, waits, e := fit.Pack(s, p, pods)
	text := fmt.Sprint(q, waits, e, fit.Order(s, pods))
	for i := -1; i < 5; i++ {
		node, is := fit.Best(s, p, i)
		text += fmt.Sprint(" ", fit.Left(s, p, i), fit.Rank(s, p, i), node, is)
	}
	return text
}

// TestOnlyRead (P14.4): nothing that is handed in is changed, its spare room neither, be there an error or not.
func TestOnlyRead(t *testing.T) {
	turned := roomy()
	slices.Reverse(turned.Nodes)
	for _, s := range []api.Snap{roomy(), turned, {}} {
		for _, row := range [][]int{{wait, wait, wait}, {0, 3, wait}, {0, 2, 0}, {1, 1, 1}, {0}, {}} {
			for _, list := range [][]int{{0, 1, 2}, {0, 2, 1, 2, 7, -1}, {2}, {}} {
				p, pods := spare(row, 2), spare(list, 1)
				before := whole(s, p, pods)
				tell(s, p, pods)
				if after := whole(s, p, pods); after != before {
					t.Errorf("what was handed in was changed: %s, now %s", before, after)
				}
			}
		}
	}
}

// answers lists all lists that the calls answer, the rows of Pack also where it binds nothing.
func answers(s api.Snap, p, pods []int) [][]int {
	q, waits, _ := fit.Pack(s, p, pods)
	same, none, _ := fit.Pack(s, p, nil)
	return [][]int{q, waits, same, none, fit.Order(s, pods), fit.Rank(s, p, 0), fit.Rank(s, p, 2)}
}

// TestNewMemory (P14.4): an answer that is written to changes neither what was handed in, nor another answer, nor another list of the same one.
func TestNewMemory(t *testing.T) {
	s := roomy()
	s.Pods[1].Req = api.Vec{101} // it finds no node
	p, pods := spare([]int{wait, wait, wait}, 2), spare([]int{0, 1, 2, 0}, 1)
	before, want := whole(s, p, pods), tell(s, p, pods)
	text := fmt.Sprint(answers(s, p, pods))
	if q, waits, _ := fit.Pack(s, p, pods); len(q) == 0 || len(waits) == 0 {
		t.Errorf("Pack(%v, %v): %v, %v, though there is something to be written to", p, pods, q, waits)
	}
	for i := range answers(s, p, pods) {
		kept, written := answers(s, p, pods), answers(s, p, pods)
		l := written[i]
		for at := range l[:cap(l)] {
			l[:cap(l)][at] = -77
		}
		if now := fmt.Sprint(kept); now != text {
			t.Errorf("an answer became another one: %s, now %s", text, now)
		}
		if written[i] = kept[i]; fmt.Sprint(written) != text {
			t.Errorf("list %d was written to, and others changed: %s, now %v", i, text, written)
		}
		if now := tell(s, p, pods); now != want {
			t.Errorf("%s, and now %s", want, now)
		}
		if after := whole(s, p, pods); after != before {
			t.Errorf("what was handed in was changed: %s, now %s", before, after)
		}
	}
}

// TestSameAnswer (R2): what is answered hangs on the arguments alone: the On of pods, which is not the placement, changes nothing, nor does what was asked for earlier.
func TestSameAnswer(t *testing.T) {
	s, p, pods := full(), []int{0, wait, wait}, []int{2, 1, 0}
	want := tell(s, p, pods)
	for i := range 20 {
		for pod := range s.Pods {
			s.Pods[pod].On = []string{"", "n0", "n3"}[(pod+i)%3]
		}
		tell(s, []int{3, wait, i%2 - 1}, []int{i % 3})
		if now := tell(s, p, pods); now != want {
			t.Fatalf("%s, and now %s", want, now)
		}
	}
}
