package snap_test

import (
	"fmt"
	"math/rand"
	"testing"

	"drayage/api"
	"drayage/snap"
)

// maker makes clusters that may be, always the same ones.
type maker struct{ *rand.Rand }

// eachCluster goes through so many clusters that may be.
func eachCluster(t *testing.T, count int, f func(s api.Snap)) {
	t.Helper()
	m := maker{rand.New(rand.NewSource(5))}
	for range count {
		s := m.cluster()
		if e := snap.Check(s); e != api.OK {
			t.Fatalf("%v may not be: %d", s, e)
		}
		f(s)
	}
}

func (m maker) is() bool { return m.Intn(2) == 0 }

func (m maker) cluster() (s api.Snap) {
	s = some(m.Intn(9), m.Intn(25), m.Intn(9))
	on, owners := []string{""}, []string{""}
	for i := range s.Nodes {
		n := &s.Nodes[i]
		n.Cap, n.Labels, n.Taints, n.Cordon, n.Lost = m.row(8), m.labels(false), m.labels(false), m.is(), m.Intn(4) == 0
		if !n.Lost {
			on = append(on, n.Name)
		}
	}
	for i := range s.Owners {
		o := &s.Owners[i]
		o.Min, o.Single = m.Intn(25), m.is()
		if m.is() {
			o.Topo, o.Skew = m.name(), 1+m.Intn(24)
		}
		owners = append(owners, o.Name)
	}
	for i := range s.Pods {
		p := &s.Pods[i]
		p.On, p.Owner = on[m.Intn(len(on))], owners[m.Intn(len(owners))]
		p.Req, p.Labels, p.Where, p.Bears = m.row(24), m.labels(false), m.terms(), m.labels(true)
		p.With, p.Apart = m.near(), m.near()
	}
	return s
}

// row makes one of which so many have a sum.
func (m maker) row(count int) (v api.Vec) {
	for i := range v {
		switch m.Intn(4) {
		case 0:
			v[i] = 1 + m.Intn(2000)
		case 1:
			v[i] = 1 << m.Intn(20)
		case 2:
			v[i] = m.Intn(most/count + 1)
		}
	}
	return v
}

func (m maker) name() string {
	return []string{"a", "zone", "host-1", "cap", "on", "with", "node", letters15}[m.Intn(8)]
}

func (m maker) value(any bool) string {
	if any && m.is() {
		return "*"
	}
	return []string{"0", "-", "a", "x-9", "on", letters15}[m.Intn(6)]
}

func (m maker) labels(borne bool) (l []api.Label) {
	for i := range m.Intn(7) {
		l = append(l, api.Label{Key: fmt.Sprintf("k%d", i), Value: m.value(borne)})
	}
	return l
}

func (m maker) terms() (l []api.Term) {
	for range m.Intn(7) {
		t := api.Term{Kind: 1 + m.Intn(4), Key: m.name()}
		if t.Kind == api.TermIs || t.Kind == api.TermNot {
			t.Value = m.value(false)
		}
		l = append(l, t)
	}
	return l
}

func (m maker) near() (n api.Near) {
	if m.is() {
		n = api.Near{Topo: m.name(), Terms: m.terms()}
	}
	return n
}
