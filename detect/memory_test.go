package detect_test

import (
	"fmt"
	"slices"
	"testing"

	"drayage/api"
	"drayage/detect"
)

// spare gives a list spare room, with something in it.
func spare[T any](l []T, more T) []T {
	l = append(slices.Clip(l), more)
	return l[:len(l)-1]
}

// roomy makes full's cluster and policy, with lists that have spare room.
func roomy() (api.Snap, api.Goal) {
	s, g := full()
	for i := range s.Nodes {
		n := &s.Nodes[i]
		n.Labels, n.Taints = spare(n.Labels, api.Label{Key: "zz"}), spare(n.Taints, api.Label{Key: "zz"})
	}
	for i := range s.Pods {
		p := &s.Pods[i]
		p.Labels, p.Bears, p.Where = spare(p.Labels, api.Label{Key: "zz"}), spare(p.Bears, api.Label{Key: "zz"}), spare(p.Where, api.Term{Kind: 3, Key: "zz"})
		p.With.Terms, p.Apart.Terms = spare(p.With.Terms, api.Term{Kind: 3, Key: "zz"}), spare(p.Apart.Terms, api.Term{Kind: 3, Key: "zz"})
	}
	s.Nodes = spare(s.Nodes, api.Node{Name: "zz"})
	s.Pods = spare(s.Pods, api.Pod{Name: "zz"})
	s.Owners = spare(s.Owners, api.Owner{Name: "zz"})
	g.Drain = spare(g.Drain, "zz")
	return s, g
}

// whole tells all that is handed in, the spare room of its lists too.
func whole(s api.Snap, p []int, g api.Goal) string {
	s.Nodes, s.Pods, s.Owners = s.Nodes[:cap(s.Nodes)], s.Pods[:cap(s.Pods)], s.Owners[:cap(s.Owners)]
	text := fmt.Sprintf("%#v%v%#v%q", s, p[:cap(p)], g, g.Drain[:cap(g.Drain)])
	for _, n := range s.Nodes {
		text += fmt.Sprint(n.Labels[:cap(n.Labels)], n.Taints[:cap(n.Taints)])
	}
	for _, p := range s.Pods {
		text += fmt.Sprint(p.Labels[:cap(p.Labels)], p.Bears[:cap(p.Bears)], p.Where[:cap(p.Where)], p.With.Terms[:cap(p.With.Terms)], p.Apart.Terms[:cap(p.Apart.Terms)])
	}
	return text
}

// tell makes each call, and says in words all that is answered.
func tell(s api.Snap, p []int, g api.Goal) string {
	text := fmt.Sprint(detect.Pods(s, p, g), detect.Fine(s, p, g))
	for pod := -1; pod < 5; pod++ {
		text += fmt.Sprint(" ", detect.Why(s, p, g, pod))
	}
	return text
}

// TestOnlyRead (P13.2): nothing that is handed in is changed, its spare room neither, be there an answer or not.
func TestOnlyRead(t *testing.T) {
	s, g := roomy()
	turned := s
	turned.Nodes = slices.Clone(s.Nodes)
	slices.Reverse(turned.Nodes)
	few, none := g, g
	few.Drain, none.Tries = nil, 9
	for _, s := range []api.Snap{s, turned, {}} {
		for _, row := range [][]int{{2, 2, 0}, {0, 0, 0}, {wait, 2, wait}, {1, 1, 1}, {0}, {}} {
			for _, g := range []api.Goal{g, few, none} {
				p := spare(row, 2)
				before := whole(s, p, g)
				tell(s, p, g)
				if after := whole(s, p, g); after != before {
					t.Errorf("what was handed in was changed: %s, now %s", before, after)
				}
			}
		}
	}
}

// TestNewMemory (P13.2): an answer that is written to changes neither what was handed in, nor another answer.
func TestNewMemory(t *testing.T) {
	s, g := roomy()
	p := spare([]int{0, 2, 0}, 2)
	before, want := whole(s, p, g), tell(s, p, g)
	kept := detect.Pods(s, p, g)
	text := fmt.Sprint(kept)
	for range 3 {
		l := detect.Pods(s, p, g)
		for i := range l[:cap(l)] {
			l[:cap(l)][i] = api.Wrong{Why: -77, Pod: -77, Node: -77}
		}
		if now := fmt.Sprint(kept); now != text {
			t.Errorf("an answer became another one: %s, now %s", text, now)
		}
		if now := tell(s, p, g); now != want {
			t.Errorf("%s, and now %s", want, now)
		}
		if after := whole(s, p, g); after != before {
			t.Errorf("what was handed in was changed: %s, now %s", before, after)
		}
	}
}

// TestSameAnswer (R2): what is answered hangs on the arguments alone: the On of pods, which is not the placement, changes nothing, nor does what was asked for earlier.
func TestSameAnswer(t *testing.T) {
	s, g := full()
	g.Drain = nil
	p := []int{0, 2, 0}
	want := tell(s, p, g)
	for i := range 30 {
		for pod := range s.Pods {
			s.Pods[pod].On = []string{"", "n0", "n2"}[(pod+i)%3]
		}
		tell(s, []int{2, i % 2 * 2, 0}, drain("n2"))
		if now := tell(s, p, g); now != want {
			t.Fatalf("%s, and now %s", want, now)
		}
	}
}
