package fit_test

import (
	"fmt"
	"math/rand"
	"testing"

	"drayage/api"
	"drayage/place"
)

// maker makes clusters and placements that may be, always the same ones.
type maker struct{ *rand.Rand }

// eachCluster goes through so many clusters, each with a placement.
func eachCluster(t *testing.T, count int, f func(m maker, s api.Snap, p []int)) {
	t.Helper()
	m := maker{rand.New(rand.NewSource(14))}
	for range count {
		s := m.cluster()
		p := m.placement(s)
		if e := place.Check(s, p); e != api.OK {
			t.Fatalf("%v, %v may not be: %d", s, p, e)
		}
		if f(m, s, p); t.Failed() {
			t.Fatalf("of %v, %v", s, p)
		}
	}
}

func (m maker) is() bool { return m.Intn(2) == 0 }

func (m maker) one(l ...string) string { return l[m.Intn(len(l))] }

// cluster makes one in which most pods ask for little, so that most find several nodes, and there are few shares, so that several are alike.
func (m maker) cluster() (s api.Snap) {
	owners := []string{""}
	for i := range m.Intn(api.MaxNodes + 1) {
		s.Nodes = append(s.Nodes, api.Node{Name: fmt.Sprintf("n%d", i), Cap: m.caps(), Labels: m.labels("host", "zone"), Cordon: m.Intn(8) == 0, Lost: m.Intn(8) == 0})
		if m.Intn(4) == 0 {
			s.Nodes[i].Taints = m.labels("gpu")
		}
	}
	for i := range m.Intn(4) {
		o := api.Owner{Name: fmt.Sprintf("o%d", i), Min: m.Intn(3), Single: m.Intn(4) == 0}
		if m.Intn(3) == 0 {
			o.Topo, o.Skew = m.one("host", "rack", "zone", "zone"), 1+m.Intn(2)
		}
		s.Owners, owners = append(s.Owners, o), append(owners, o.Name)
	}
	for i := range m.Intn(15) {
		s.Pods = append(s.Pods, api.Pod{
			Name: fmt.Sprintf("p%02d", i), Owner: m.one(owners...), Req: m.reqs(), Labels: m.labels("app", "tier"),
			Where: m.terms(6, "host", "zone"), Bears: m.bears(), With: m.near(), Apart: m.near(),
		})
	}
	return s
}

// caps makes a row, of one or of several quantities.
func (m maker) caps() (v api.Vec) {
	for kind := range 1 + m.Intn(api.Kinds) {
		v[kind] = []int{0, 3, 5, 10, 10, 12, 12, 100, 1000}[m.Intn(9)]
	}
	return v
}

func (m maker) reqs() (v api.Vec) {
	for kind := range v {
		if m.Intn(1+2*kind) == 0 {
			v[kind] = m.Intn(2 + m.Intn(12))
		}
	}
	return v
}

func (m maker) labels(keys ...string) (l []api.Label) {
	for _, key := range keys {
		if m.Intn(5) > 0 {
			l = append(l, api.Label{Key: key, Value: m.one("x", "y", "z")})
		}
	}
	return l
}

// terms makes one, or, the greater odds are, the oftener none.
func (m maker) terms(odds int, keys ...string) []api.Term {
	if m.Intn(odds) > 0 {
		return nil
	}
	term := api.Term{Kind: 1 + m.Intn(4), Key: m.one(keys...)}
	if term.Kind == api.TermIs || term.Kind == api.TermNot {
		term.Value = m.one("x", "y", "z")
	}
	return []api.Term{term}
}

func (m maker) bears() (l []api.Label) {
	if m.is() {
		l = append(l, api.Label{Key: "gpu", Value: m.one("*", "x", "y")})
	}
	return l
}

func (m maker) near() api.Near {
	if m.Intn(8) > 0 {
		return api.Near{}
	}
	return api.Near{Topo: m.one("host", "rack", "zone", "zone"), Terms: m.terms(1, "app", "tier")}
}

// placement lets about half of the pods wait; of some clusters all.
func (m maker) placement(s api.Snap) []int {
	free := []int{wait}
	for node, n := range s.Nodes {
		if !n.Lost {
			free = append(free, node)
		}
	}
	allWait := m.Intn(3) == 0
	p := make([]int, len(s.Pods))
	for pod := range p {
		p[pod] = wait
		if !allWait && m.is() {
			p[pod] = free[m.Intn(len(free))]
		}
	}
	return p
}

// pods lists places of pods, some of them several times, and some that are none.
func (m maker) pods(s api.Snap) (l []int) {
	for range m.Intn(2 * (len(s.Pods) + 1)) {
		l = append(l, m.Intn(len(s.Pods)+3)-1)
	}
	return l
}
