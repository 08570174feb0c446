package store_test

import (
	"fmt"
	"math/rand"
	"testing"

	"drayage/api"
)

// maker makes clusters that may be, always the same ones.
type maker struct{ *rand.Rand }

func (m maker) is() bool { return m.Intn(2) == 0 }

func (m maker) cluster() (s api.Snap) {
	owners, free := []string{""}, []string{""}
	for i := range m.Intn(api.MaxNodes + 1) {
		n := api.Node{Name: fmt.Sprintf("n%d", i), Cap: m.row(), Cordon: m.is(), Lost: m.Intn(4) == 0}
		if !n.Lost {
			free = append(free, n.Name)
		}
		s.Nodes = append(s.Nodes, n)
	}
	for i := range m.Intn(api.MaxOwners + 1) {
		o := api.Owner{Name: fmt.Sprintf("o%d", i), Min: m.Intn(25), Single: m.is()}
		s.Owners, owners = append(s.Owners, o), append(owners, o.Name)
	}
	for i := range m.Intn(api.MaxPods + 1) {
		s.Pods = append(s.Pods, api.Pod{Name: fmt.Sprintf("p%02d", i), Owner: owners[m.Intn(len(owners))], Req: m.row(), On: free[m.Intn(len(free))]})
	}
	return s
}

func (m maker) row() (v api.Vec) {
	for kind := range v {
		v[kind] = m.Intn(most/api.MaxPods + 1)
	}
	return v
}

// call makes one of a pod and a node, or, at times, of none; losses are rare, so that much stays possible.
func (m maker) call(s api.Snap) call {
	names := []string{"evict", "evict", "evict", "bind", "bind", "bind", "cordon", "uncordon", "gone", "lose"}
	c := call{name: names[m.Intn(len(names)-1)], pod: m.Intn(len(s.Pods)+2) - 1, node: m.Intn(len(s.Nodes)+2) - 1}
	if m.Intn(60) == 0 {
		c.name = "lose"
	}
	return c
}

// TestRandom (P11.1 to P11.6): of clusters made at random, long rows of calls.
func TestRandom(t *testing.T) {
	m := maker{rand.New(rand.NewSource(11))}
	done := map[string]int{}
	for range 150 {
		s := m.cluster()
		x, words := live(t, s), modelOf(s)
		checkModel(t, x, words)
		for range 60 {
			c := m.call(s)
			if checkCall(t, x, words, c) == api.OK {
				done[c.name]++
			}
			checkFollows(t, x)
		}
		if t.Failed() {
			t.Fatalf("of %v", s)
		}
	}
	for _, name := range []string{"evict", "bind", "cordon", "uncordon", "gone", "lose"} {
		if done[name] < 50 {
			t.Errorf("%s was done only %d times", name, done[name])
		}
	}
}
