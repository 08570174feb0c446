package heat_test

import (
	"fmt"
	"slices"
	"testing"

	"drayage/api"
	"drayage/heat"
)

// spare gives a list spare room, with something in it.
func spare[T any](l []T, more T) []T {
	l = append(slices.Clip(l), more)
	return l[:len(l)-1]
}

// roomy makes a cluster whose lists have spare room.
func roomy() api.Snap {
	s := full()
	for i := range s.Nodes {
		s.Nodes[i].Labels = spare(s.Nodes[i].Labels, api.Label{Key: "zz", Value: "spare"})
	}
	s.Nodes = spare(s.Nodes, api.Node{Name: "zz", Cap: api.Vec{1, 1}})
	s.Pods = spare(s.Pods, api.Pod{Name: "zz", Req: api.Vec{77, 77}})
	s.Owners = spare(s.Owners, api.Owner{Name: "zz"})
	return s
}

// whole tells all of a cluster, its spare room too.
func whole(s api.Snap) string {
	s.Nodes, s.Pods, s.Owners = s.Nodes[:cap(s.Nodes)], s.Pods[:cap(s.Pods)], s.Owners[:cap(s.Owners)]
	text := fmt.Sprintf("%#v", s)
	for _, n := range s.Nodes {
		text += fmt.Sprint(n.Labels[:cap(n.Labels)])
	}
	return text
}

// tell makes each call, and says in words all that is answered.
func tell(s api.Snap, p []int, g api.Goal) string {
	text := fmt.Sprint(heat.Low(s, p, g), heat.High(s, p, g), heat.Idle(s, p))
	for node := -1; node < 8; node++ {
		text += fmt.Sprint(heat.Share(s, p, node), heat.Pods(s, p, node))
	}
	return text
}

// TestOnlyRead (P12.3): nothing that is handed in is changed, its spare room neither, be there an answer or not.
func TestOnlyRead(t *testing.T) {
	turned := roomy()
	slices.Reverse(turned.Nodes)
	drain := []string{"n0", "n4"}
	for _, s := range []api.Snap{roomy(), turned, {}} {
		before := whole(s)
		for _, row := range [][]int{{5, 4, 1, 1, 0}, {wait, 0, 0, wait, 4}, {0, 0, 0, 0, 2}, {4, 0}, {}} {
			for _, g := range []api.Goal{low(500, 500), high(100, 100), {Tries: 9}} {
				p := spare(row, 4)
				g.Drain = spare(drain, "n5")
				tell(s, p, g)
				if !slices.Equal(p[:len(p)+1], append(slices.Clone(row), 4)) {
					t.Errorf("the placement %v was changed to %v", row, p[:len(p)+1])
				}
				if l := g.Drain[:3]; !slices.Equal(l, []string{"n0", "n4", "n5"}) {
					t.Errorf("what is drained was changed to %q", l)
				}
			}
		}
		if after := whole(s); after != before {
			t.Errorf("the cluster was changed: %s, now %s", before, after)
		}
	}
}

// scribble writes over a list, and its spare room.
func scribble(l []int) {
	for i := range l[:cap(l)] {
		l[:cap(l)][i] = -77
	}
}

// TestNewMemory (P12.3): an answer that is written to changes neither what was handed in, nor another answer.
func TestNewMemory(t *testing.T) {
	s, row, g := roomy(), []int{0, 1, 1, 4, wait}, api.Goal{Low: [2]int{101, 201}, High: [2]int{299, 1000}}
	p := spare(row, 4)
	before, want := whole(s), tell(s, p, g)
	for range 2 {
		answers := func() [][]int {
			return [][]int{heat.Pods(s, p, 0), heat.Pods(s, p, 1), heat.Low(s, p, g), heat.High(s, p, g), heat.Idle(s, p)}
		}
		kept := answers()
		text := fmt.Sprint(kept)
		for _, l := range answers() {
			scribble(l)
		}
		if now := fmt.Sprint(kept); now != text {
			t.Errorf("answers became other ones: %s, now %s", text, now)
		}
		for i, l := range kept {
			scribble(l)
			for _, other := range kept[i+1:] {
				if slices.Contains(other, -77) {
					t.Errorf("two answers share memory: %v", other)
				}
			}
		}
		if now := tell(s, p, g); now != want {
			t.Errorf("%s, and now %s", want, now)
		}
		if after := whole(s); after != before || !slices.Equal(p[:len(p)+1], append(slices.Clone(row), 4)) {
			t.Errorf("what was handed in was changed: %s, now %s, %v", before, after, p)
		}
	}
}

// TestSameAnswer (R2): what is answered hangs on the arguments alone: the On of pods, which is not the placement, changes nothing, nor does what was asked for earlier.
func TestSameAnswer(t *testing.T) {
	s, p, g := full(), []int{0, 1, 1, 4, wait}, api.Goal{Low: [2]int{101, 201}, High: [2]int{299, 1000}}
	want := tell(s, p, g)
	for i := range 30 {
		for pod := range s.Pods {
			s.Pods[pod].On = []string{"", "n0", "n5"}[(pod+i)%3]
		}
		tell(s, []int{5, 5, i % 2, 4, wait}, high(1, 1+i))
		if now := tell(s, p, g); now != want {
			t.Fatalf("%s, and now %s", want, now)
		}
	}
}
