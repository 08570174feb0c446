package place_test

import (
	"fmt"
	"math/rand"
	"testing"

	"drayage/api"
	"drayage/place"
)

// maker makes clusters and placements that may be, always the same ones.
type maker struct{ *rand.Rand }

// eachCluster goes through so many clusters, each with two placements.
func eachCluster(t *testing.T, count int, f func(s api.Snap, p, q []int)) {
	t.Helper()
	m := maker{rand.New(rand.NewSource(7))}
	for range count {
		s := m.cluster()
		p, q := m.placement(s), m.placement(s)
		if e := place.Check(s, p); e != api.OK {
			t.Fatalf("%v may not be: %d", s, e)
		}
		f(s, p, q)
	}
}

func (m maker) is() bool { return m.Intn(2) == 0 }

func (m maker) cluster() (s api.Snap) {
	owners := []string{""}
	for i := range m.Intn(9) {
		s.Nodes = append(s.Nodes, api.Node{Name: fmt.Sprintf("n%d", i), Labels: m.labels(), Cordon: m.is(), Lost: m.Intn(4) == 0})
	}
	for i := range m.Intn(9) {
		o := api.Owner{Name: fmt.Sprintf("o%d", i), Min: m.Intn(25), Single: m.is()}
		if m.Intn(4) > 0 {
			o.Topo, o.Skew = []string{"host", "rack", "zone"}[m.Intn(3)], 1+m.Intn(24)
		}
		s.Owners, owners = append(s.Owners, o), append(owners, o.Name)
	}
	for i := range m.Intn(25) {
		pod := api.Pod{Name: fmt.Sprintf("p%02d", i), Owner: owners[m.Intn(len(owners))]}
		for kind := range pod.Req {
			pod.Req[kind] = m.Intn(most/24 + 1)
		}
		s.Pods = append(s.Pods, pod)
	}
	return s
}

func (m maker) labels() (l []api.Label) {
	for _, key := range []string{"host", "rack", "zone"} {
		if m.Intn(3) > 0 {
			l = append(l, api.Label{Key: key, Value: []string{"0", "x", "x-9", "b"}[m.Intn(4)]})
		}
	}
	return l
}

func (m maker) placement(s api.Snap) []int {
	free := []int{wait}
	for node, n := range s.Nodes {
		if !n.Lost {
			free = append(free, node)
		}
	}
	p := make([]int, len(s.Pods))
	for pod := range p {
		p[pod] = free[m.Intn(len(free))]
	}
	return p
}
