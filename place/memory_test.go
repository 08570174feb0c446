package place_test

import (
	"fmt"
	"slices"
	"testing"
	"unsafe"

	"drayage/api"
	"drayage/place"
)

// spare gives a list spare room, with something in it.
func spare[T any](l []T, more T) []T {
	l = append(slices.Clip(l), more)
	return l[:len(l)-1]
}

// roomy makes a cluster whose lists have spare room.
func roomy() api.Snap {
	s := full()
	for i := range s.Nodes {
		s.Nodes[i].Labels = spare(s.Nodes[i].Labels, api.Label{Key: "zz", Value: "spare"})
	}
	s.Nodes = spare(s.Nodes, api.Node{Name: "zz", Labels: pairs("zone", "spare")})
	s.Pods = spare(s.Pods, api.Pod{Name: "zz", Owner: "web", Req: api.Vec{77}})
	s.Owners = spare(s.Owners, api.Owner{Name: "zz"})
	return s
}

// whole tells all of a cluster, its spare room too.
func whole(s api.Snap) string {
	s.Nodes, s.Pods, s.Owners = s.Nodes[:cap(s.Nodes)], s.Pods[:cap(s.Pods)], s.Owners[:cap(s.Owners)]
	text := fmt.Sprintf("%#v", s)
	for _, n := range s.Nodes {
		text += fmt.Sprintf("%#v", n.Labels[:cap(n.Labels)])
	}
	return text
}

// callAll makes each call, those too that have an error.
func callAll(s api.Snap, p []int) {
	place.Check(s, p)
	place.Domains(s, "zone")
	place.Moves(p, []int{4, 4, 4})
	place.Moves([]int{4, 4, 4}, p)
	for i := -1; i < 7; i++ {
		place.Used(s, p, i)
		place.Domain(s, i, "zone")
		place.Counts(s, p, i)
		place.Spread(s, p, i)
		place.Placed(s, p, i)
		place.Apply(s, p, api.Step{Kind: evict, Pod: i})
		place.Apply(s, p, api.Step{Kind: bind, Pod: 2, Node: i})
	}
}

// TestOnlyRead (P7.6): nothing that is handed in is changed, its spare room neither.
func TestOnlyRead(t *testing.T) {
	turned := roomy()
	slices.Reverse(turned.Nodes)
	for _, s := range []api.Snap{roomy(), turned, {}} {
		before := whole(s)
		for _, row := range [][]int{{0, 2, wait, 3, 4, 0}, {4, 4, wait, 4, 4, 4}, {0, 2, wait, 3, 4, 1}, {5}} {
			p := spare(row, 4)
			callAll(s, p)
			if !slices.Equal(p[:len(p)+1], append(row, 4)) {
				t.Errorf("the placement %v was changed to %v", row, p[:len(p)+1])
			}
		}
		if after := whole(s); after != before {
			t.Errorf("the cluster was changed: %s, now %s", before, after)
		}
	}
}

// TestNewMemory (P7.6): an answer has nothing of what was handed in, and one that is written to changes neither that nor a later answer.
func TestNewMemory(t *testing.T) {
	s, row := roomy(), []int{0, 2, wait, 3, 4, 0}
	p := spare(row, 4)
	before := whole(s)
	for range 2 {
		q, _ := place.Apply(s, p, api.Step{Kind: bind, Pod: 2, Node: 3})
		counts, spread, moves, domains := place.Counts(s, p, 2), place.Spread(s, p, 2), place.Moves(row, q), place.Domains(s, "zone")
		if want := "[0 2 3 3 4 0] [1 0 1 0 1] [1 2] [{2 3}] [b x]"; fmt.Sprint(q, counts, spread, moves, domains) != want {
			t.Errorf("%v %v %v %v %v, not %s", q, counts, spread, moves, domains, want)
		}
		for _, l := range [][]int{q, counts, spread} {
			for i := range l[:cap(l)] {
				l[:cap(l)][i] = 99
			}
		}
		moves[0], domains[0], domains[1] = api.Move{Pod: 99, To: 99}, "y", "y"
	}
	if !slices.Equal(p[:7], []int{0, 2, wait, 3, 4, 0, 4}) || whole(s) != before {
		t.Errorf("what was handed in was changed by answers that were written to: %v, %v", p[:7], s)
	}
}

// isAt tells whether two texts stand in the same memory.
func isAt(a, b string) bool {
	return unsafe.StringData(a) == unsafe.StringData(b)
}

// TestNewTexts (P7.6): the texts that are answered are not those of the cluster.
func TestNewTexts(t *testing.T) {
	s := full()
	long := string([]byte("x-long"))
	s.Nodes[0].Labels[1].Value = long
	if value, _ := place.Domain(s, 0, "zone"); value != long || isAt(value, long) {
		t.Errorf("Domain: %q, of the cluster's memory: %t", value, isAt(value, long))
	}
	for _, value := range place.Domains(s, "zone") {
		if isAt(value, long) {
			t.Error("Domains: of the cluster's memory")
		}
	}
}

// TestSameAnswer (R2): what is answered hangs on the arguments alone, not on the order of a map.
func TestSameAnswer(t *testing.T) {
	var s api.Snap
	for i, value := range []string{"h", "d", "g", "c", "f", "b", "e", "a"} {
		s.Nodes = append(s.Nodes, api.Node{Name: fmt.Sprint("n", i), Labels: pairs("k", value)})
	}
	p := []int{1, 2, 2, 3, 3, 3, 4, 4, 4, 4, 5, 5, 5, 5, 5, 6, 6, 6, 6, 6, 6, 7, 7, 7}
	for i := range p {
		s.Pods = append(s.Pods, api.Pod{Name: fmt.Sprintf("p%02d", i), Owner: "o"})
	}
	s.Owners = []api.Owner{{Name: "o", Topo: "k", Skew: 1}}
	for range 100 {
		checkDomains(t, s, "k", "a", "b", "c", "d", "e", "f", "g", "h")
		checkOwner(t, s, p, 0, []int{0, 1, 2, 3, 4, 5, 6, 3}, []int{3, 5, 3, 1, 6, 4, 2, 0}, 24)
	}
}
