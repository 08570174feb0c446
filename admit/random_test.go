package admit_test

import (
	"fmt"
	"math/rand"
	"testing"

	"drayage/api"
	"drayage/place"
)

// maker makes clusters and placements that may be, always the same ones.
type maker struct{ *rand.Rand }

func random(seed int64) maker { return maker{rand.New(rand.NewSource(seed))} }

// eachCluster goes through so many clusters, each with a placement.
func eachCluster(t *testing.T, count int, f func(s api.Snap, p []int)) {
	t.Helper()
	m := random(9)
	for range count {
		s := m.cluster()
		p := m.placement(s)
		if e := place.Check(s, p); e != api.OK {
			t.Fatalf("%v, %v may not be: %d", s, p, e)
		}
		f(s, p)
	}
}

func (m maker) is() bool { return m.Intn(2) == 0 }

func (m maker) one(l ...string) string { return l[m.Intn(len(l))] }

// cluster makes one of few nodes and owners, so that pods meet.
func (m maker) cluster() (s api.Snap) {
	owners := []string{""}
	for i := range m.Intn(api.MaxNodes + 1) {
		s.Nodes = append(s.Nodes, api.Node{Name: fmt.Sprintf("n%d", i), Cap: m.row(60), Labels: m.labels("host", "zone"), Taints: m.labels("gpu", "old"), Cordon: m.is(), Lost: m.Intn(6) == 0})
	}
	for i := range m.Intn(4) {
		o := api.Owner{Name: fmt.Sprintf("o%d", i), Min: m.Intn(6), Single: m.is()}
		if m.Intn(4) > 0 {
			o.Topo, o.Skew = m.one("host", "host", "rack", "zone", "zone"), 1+m.Intn(2)
		}
		s.Owners, owners = append(s.Owners, o), append(owners, o.Name)
	}
	for i := range m.Intn(api.MaxPods + 1) {
		s.Pods = append(s.Pods, api.Pod{
			Name: fmt.Sprintf("p%02d", i), Owner: m.one(owners...), Req: m.row(20), Labels: m.labels("app", "tier"),
			Where: m.terms("host", "zone"), Bears: m.bears(), With: m.near(), Apart: m.near(),
		})
	}
	return s
}

func (m maker) row(most int) (v api.Vec) {
	for quantity := range v {
		v[quantity] = m.Intn(most + 1)
	}
	return v
}

func (m maker) labels(keys ...string) (l []api.Label) {
	for _, key := range keys {
		if m.Intn(5) > 0 {
			l = append(l, api.Label{Key: key, Value: m.one("x", "y", "z")})
		}
	}
	return l
}

func (m maker) terms(keys ...string) (l []api.Term) {
	for range m.Intn(4) {
		term := api.Term{Kind: 1 + m.Intn(4), Key: m.one(keys...)}
		if term.Kind == api.TermIs || term.Kind == api.TermNot {
			term.Value = m.one("x", "y", "z")
		}
		l = append(l, term)
	}
	return l
}

func (m maker) bears() (l []api.Label) {
	for _, key := range []string{"gpu", "old"} {
		for _, value := range []string{"*", "x", "y"} {
			if m.Intn(3) == 0 {
				l = append(l, api.Label{Key: key, Value: value})
			}
		}
	}
	return l
}

func (m maker) near() api.Near {
	if m.is() {
		return api.Near{}
	}
	return api.Near{Topo: m.one("host", "rack", "zone", "zone"), Terms: m.terms("app", "tier")}
}

// placement favours some nodes, so that some domains are fuller than others.
func (m maker) placement(s api.Snap) []int {
	var free []int
	for node, n := range s.Nodes {
		if !n.Lost {
			free = append(free, node)
		}
	}
	m.Shuffle(len(free), func(i, j int) { free[i], free[j] = free[j], free[i] })
	free = append(free, wait)
	p := make([]int, len(s.Pods))
	for pod := range p {
		p[pod] = free[min(m.Intn(len(free)), m.Intn(len(free)))]
	}
	return p
}
