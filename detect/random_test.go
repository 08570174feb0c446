package detect_test

import (
	"fmt"
	"math/rand"
	"testing"

	"drayage/admit"
	"drayage/api"
	"drayage/place"
	"drayage/policy"
)

// maker makes clusters, placements and policies that may be, always the same ones.
type maker struct{ *rand.Rand }

// eachCluster goes through so many clusters, each with a placement and a policy.
func eachCluster(t *testing.T, count int, f func(m maker, s api.Snap, p []int, g api.Goal)) {
	t.Helper()
	m := maker{rand.New(rand.NewSource(13))}
	for range count {
		s := m.cluster()
		p, g := m.placement(s), m.policy()
		if place.Check(s, p) != api.OK || policy.Check(g) != api.OK {
			t.Fatalf("%v, %v, %v may not be", s, p, g)
		}
		if f(m, s, p, g); t.Failed() {
			t.Fatalf("of %v, %v, %v", s, p, g)
		}
	}
}

func (m maker) is() bool { return m.Intn(2) == 0 }

func (m maker) one(l ...string) string { return l[m.Intn(len(l))] }

// cluster makes one of few nodes and owners, so that pods meet, most of whom ask for little, so that each reason is at times the least.
func (m maker) cluster() (s api.Snap) {
	owners := []string{""}
	for i := range m.Intn(api.MaxNodes + 1) {
		s.Nodes = append(s.Nodes, api.Node{Name: fmt.Sprintf("n%d", i), Cap: m.row(400), Labels: m.labels(5, "host", "zone"), Taints: m.labels(2, "gpu"), Cordon: m.is(), Lost: m.Intn(6) == 0})
	}
	for i := range m.Intn(4) {
		o := api.Owner{Name: fmt.Sprintf("o%d", i), Single: m.is()}
		if m.Intn(4) > 0 {
			o.Topo, o.Skew = m.one("host", "host", "rack", "zone", "zone"), 1+m.Intn(2)
		}
		s.Owners, owners = append(s.Owners, o), append(owners, o.Name)
	}
	for i := range m.Intn(api.MaxPods + 1) {
		s.Pods = append(s.Pods, api.Pod{
			Name: fmt.Sprintf("p%02d", i), Owner: m.one(owners...), Req: m.row(50), Labels: m.labels(5, "app", "tier"),
			Where: m.terms(15, "host", "zone"), Bears: m.bears(), With: m.near(), Apart: m.near(),
		})
	}
	return s
}

func (m maker) row(most int) (v api.Vec) {
	for kind := range v {
		if m.Intn(12) > 0 {
			v[kind] = m.Intn(most + 1)
		}
	}
	return v
}

// labels makes one of each key; the greater odds are, the oftener.
func (m maker) labels(odds int, keys ...string) (l []api.Label) {
	for _, key := range keys {
		if m.Intn(odds) > 0 {
			l = append(l, api.Label{Key: key, Value: m.one("x", "y", "z")})
		}
	}
	return l
}

// terms makes up to three; the greater odds are, the oftener it makes none.
func (m maker) terms(odds int, keys ...string) (l []api.Term) {
	for range max(0, 3-m.Intn(odds)) {
		term := api.Term{Kind: 1 + m.Intn(4), Key: m.one(keys...)}
		if term.Kind == api.TermIs || term.Kind == api.TermNot {
			term.Value = m.one("x", "y", "z")
		}
		l = append(l, term)
	}
	return l
}

func (m maker) bears() (l []api.Label) {
	for _, key := range []string{"gpu", "old"} {
		if m.Intn(3) > 0 {
			l = append(l, api.Label{Key: key, Value: m.one("*", "*", "x", "y")})
		}
	}
	return l
}

func (m maker) near() api.Near {
	if m.Intn(5) > 0 {
		return api.Near{}
	}
	return api.Near{Topo: m.one("host", "rack", "zone", "zone"), Terms: m.terms(3, "app", "tier")}
}

// placement favours some nodes, so that some are fuller than others.
func (m maker) placement(s api.Snap) []int {
	var free []int
	for node, n := range s.Nodes {
		if !n.Lost {
			free = append(free, node)
		}
	}
	m.Shuffle(len(free), func(i, j int) { free[i], free[j] = free[j], free[i] })
	free = append(free, wait)
	p := make([]int, len(s.Pods))
	for pod := range p {
		p[pod] = free[min(m.Intn(len(free)), m.Intn(len(free)))]
	}
	return p
}

// safe binds most pods one behind the other, each where it may be: as no owner of cluster's has a least number, that is safe.
func (m maker) safe(s api.Snap) []int {
	p := make([]int, len(s.Pods))
	for pod := range p {
		p[pod] = wait
	}
	for _, pod := range m.Perm(len(p)) {
		if ways := admit.Ways(s, p, pod); len(ways) > 0 && m.Intn(8) > 0 {
			p[pod] = ways[m.Intn(len(ways))]
		}
	}
	return p
}

// policy makes one that drains few nodes, and whose bounds are rather great, so that nodes are low at times.
func (m maker) policy() (g api.Goal) {
	asks := 1 + m.Intn(6) // at times of neither
	for kind := range g.High {
		if m.Intn(asks) > 0 {
			g.High[kind] = max(m.Intn(1001), m.Intn(1001), m.Intn(1001))
			g.Low[kind] = max(m.Intn(g.High[kind]+1), m.Intn(g.High[kind]+1), m.Intn(g.High[kind]+1))
		}
	}
	for i := range api.MaxNodes {
		if m.Intn(8) == 0 {
			g.Drain = append(g.Drain, fmt.Sprintf("n%d", i))
		}
	}
	g.On = m.Intn(api.OnAll + 1)
	return g
}
