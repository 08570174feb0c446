package heat_test

import (
	"fmt"
	"math/rand"
	"testing"

	"drayage/api"
	"drayage/place"
	"drayage/policy"
)

// maker makes clusters, placements and policies that may be, always the same ones.
type maker struct{ *rand.Rand }

// eachCluster goes through so many clusters, each with a placement and a policy.
func eachCluster(t *testing.T, count int, f func(s api.Snap, p []int, g api.Goal)) {
	t.Helper()
	m := maker{rand.New(rand.NewSource(12))}
	for range count {
		s := m.cluster()
		p, g := m.placement(s), m.policy()
		if place.Check(s, p) != api.OK || policy.Check(g) != api.OK {
			t.Fatalf("%v, %v, %v may not be", s, p, g)
		}
		if f(s, p, g); t.Failed() {
			t.Fatalf("of %v, %v, %v", s, p, g)
		}
	}
}

// cluster makes one whose nodes have at times too little, and at times nothing.
func (m maker) cluster() (s api.Snap) {
	for i := range m.Intn(api.MaxNodes + 1) {
		s.Nodes = append(s.Nodes, api.Node{Name: fmt.Sprintf("n%d", i), Cap: m.row(600), Cordon: m.Intn(2) == 0, Lost: m.Intn(6) == 0})
	}
	for i := range m.Intn(api.MaxPods + 1) {
		s.Pods = append(s.Pods, api.Pod{Name: fmt.Sprintf("p%02d", i), Req: m.row(100)})
	}
	return s
}

func (m maker) row(most int) (v api.Vec) {
	for kind := range v {
		if m.Intn(4) > 0 {
			v[kind] = m.Intn(most + 1)
		}
	}
	return v
}

// placement leaves at times many pods waiting, so that not all nodes are too full.
func (m maker) placement(s api.Snap) []int {
	free := []int{wait}
	for node, n := range s.Nodes {
		if !n.Lost {
			free = append(free, node)
		}
	}
	p, waiting := make([]int, len(s.Pods)), m.Intn(4)
	for pod := range p {
		p[pod] = wait
		if m.Intn(4) >= waiting {
			p[pod] = free[m.Intn(len(free))]
		}
	}
	return p
}

// policy makes one whose bounds are rather great, so that nodes are low at times, of both quantities.
func (m maker) policy() (g api.Goal) {
	for kind := range g.High {
		if m.Intn(6) > 0 {
			g.High[kind] = max(m.Intn(1001), m.Intn(1001))
			g.Low[kind] = max(m.Intn(g.High[kind]+1), m.Intn(g.High[kind]+1))
		}
	}
	return g
}
