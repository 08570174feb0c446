package repack_test

import (
	"fmt"
	"slices"
	"testing"

	"drayage/api"
	"drayage/repack"
)

// spare gives a list spare room, with something in it.
func spare[T any](l []T, more T) []T {
	l = append(slices.Clip(l), more)
	return l[:len(l)-1]
}

// roomy makes full's cluster and policy, with lists that have spare room.
func roomy() (api.Snap, api.Goal) {
	s, g := full()
	label, term := api.Label{Key: "zz"}, api.Term{Kind: 3, Key: "zz"}
	for i := range s.Nodes {
		n := &s.Nodes[i]
		n.Labels, n.Taints = spare(n.Labels, label), spare(n.Taints, label)
	}
	for i := range s.Pods {
		p := &s.Pods[i]
		p.Labels, p.Bears, p.Where = spare(p.Labels, label), spare(p.Bears, label), spare(p.Where, term)
		p.With.Terms, p.Apart.Terms = spare(p.With.Terms, term), spare(p.Apart.Terms, term)
	}
	s.Nodes = spare(s.Nodes, api.Node{Name: "zz"})
	s.Pods = spare(s.Pods, api.Pod{Name: "zz"})
	s.Owners = spare(s.Owners, api.Owner{Name: "zz"})
	g.Drain = spare(g.Drain, "zz")
	return s, g
}

// whole tells all that is handed in, the spare room of its lists too.
func whole(s api.Snap, p []int, g api.Goal) string {
	s.Nodes, s.Pods, s.Owners = s.Nodes[:cap(s.Nodes)], s.Pods[:cap(s.Pods)], s.Owners[:cap(s.Owners)]
	text := fmt.Sprintf("%#v%v%#v%q", s, p[:cap(p)], g, g.Drain[:cap(g.Drain)])
	for _, n := range s.Nodes {
		text += fmt.Sprint(n.Labels[:cap(n.Labels)], n.Taints[:cap(n.Taints)])
	}
	for _, p := range s.Pods {
		text += fmt.Sprint(p.Labels[:cap(p.Labels)], p.Bears[:cap(p.Bears)], p.Where[:cap(p.Where)], p.With.Terms[:cap(p.With.Terms)], p.Apart.Terms[:cap(p.Apart.Terms)])
	}
	return text
}

// tell makes each call, and says in words all that is answered.
func tell(s api.Snap, p []int, g api.Goal) string {
	q, stays, e := repack.Target(s, p, g)
	moves, same := repack.Wishes(s, p, g)
	text := fmt.Sprint(q, stays, e, moves, same)
	for pod := -1; pod < 5; pod++ {
		text += fmt.Sprint(" ", repack.Choices(s, p, g, pod))
	}
	return text
}

// TestOnlyRead (P15.4): nothing that is handed in is changed, its spare room neither, be there an error or not.
func TestOnlyRead(t *testing.T) {
	s, g := roomy()
	turned := s
	turned.Nodes = slices.Clone(s.Nodes)
	slices.Reverse(turned.Nodes)
	empty, none := g, g
	empty.Drain, empty.Low, none.Tries = nil, [2]int{900, 900}, 9
	for _, s := range []api.Snap{s, turned, {}} {
		for _, row := range [][]int{{0, 0, 0}, {2, 2, 0}, {0, 3, 2}, {wait, 2, wait}, {1, 1, 1}, {0}, {}} {
			for _, g := range []api.Goal{g, empty, none} {
				p := spare(row, 2)
				before := whole(s, p, g)
				tell(s, p, g)
				if after := whole(s, p, g); after != before {
					t.Errorf("what was handed in was changed: %s, now %s", before, after)
				}
			}
		}
	}
}

// overwrite writes to all of a list, its spare room too.
func overwrite[T any](l []T, x T) {
	for at := range l[:cap(l)] {
		l[:cap(l)][at] = x
	}
}

// TestNewMemory (P15.4): an answer that is written to changes neither what was handed in, nor another answer, nor the other list of the same one; also where nobody goes.
func TestNewMemory(t *testing.T) {
	s, g := roomy()
	still := g
	still.MaxMoves = 0
	for _, g := range []api.Goal{g, still} {
		p := spare([]int{0, 0, 0}, 2)
		before, want := whole(s, p, g), tell(s, p, g)
		kept, stays, _ := repack.Target(s, p, g)
		moves, _ := repack.Wishes(s, p, g)
		choices := repack.Choices(s, p, g, 0)
		text := fmt.Sprint(kept, stays, moves, choices)
		if len(kept) == 0 || len(stays) == 0 || len(choices) == 0 {
			t.Errorf("%s, though there is something to be written to", text)
		}
		q, _, _ := repack.Target(s, p, g)
		overwrite(q, -77)
		_, l, _ := repack.Target(s, p, g)
		overwrite(l, api.Wrong{Why: -77})
		m, _ := repack.Wishes(s, p, g)
		overwrite(m, api.Move{Pod: -77})
		overwrite(repack.Choices(s, p, g, 0), -77)
		if now := fmt.Sprint(kept, stays, moves, choices); now != text {
			t.Errorf("an answer became another one: %s, now %s", text, now)
		}
		if now := tell(s, p, g); now != want {
			t.Errorf("%s, and now %s", want, now)
		}
		if after := whole(s, p, g); after != before {
			t.Errorf("what was handed in was changed: %s, now %s", before, after)
		}
		l = slices.Clone(stays)
		if overwrite(kept, -77); !slices.Equal(l, stays) {
			t.Errorf("the target was written to, and %v became %v", l, stays)
		}
	}
}

// TestSameAnswer (R2): what is answered hangs on the arguments alone: the On of pods, which is not the placement, changes nothing, nor do Tries and Rollback, nor what was asked for earlier.
func TestSameAnswer(t *testing.T) {
	s, g := full()
	p := []int{0, 0, 0}
	want := tell(s, p, g)
	for i := range 20 {
		for pod := range s.Pods {
			s.Pods[pod].On = []string{"", "n0", "n3"}[(pod+i)%3]
		}
		g.Tries, g.Rollback = i%9, i%2 == 0
		tell(s, []int{3, wait, i%2 - 1}, api.Goal{MaxMoves: i})
		if now := tell(s, p, g); now != want {
			t.Fatalf("%s, and now %s", want, now)
		}
	}
}
