package repack_test

import (
	"fmt"
	"math/rand"
	"slices"
	"testing"

	"drayage/admit"
	"drayage/api"
	"drayage/place"
	"drayage/policy"
)

// maker makes clusters, placements and policies that may be, always the same ones.
type maker struct{ *rand.Rand }

// eachCluster goes through so many clusters, each with a placement and a policy.
func eachCluster(t *testing.T, count int, f func(m maker, s api.Snap, p []int, g api.Goal)) {
	t.Helper()
	m := maker{rand.New(rand.NewSource(15))}
	for range count {
		s := m.cluster()
		p, g := m.placement(s), m.policy()
		if place.Check(s, p) != api.OK || policy.Check(g) != api.OK {
			t.Fatalf("%v, %v, %v may not be", s, p, g)
		}
		if f(m, s, p, g); t.Failed() {
			t.Fatalf("of %v, %v, %v", s, p, g)
		}
	}
}

func (m maker) is() bool { return m.Intn(2) == 0 }

func (m maker) one(l ...string) string { return l[m.Intn(len(l))] }

// cluster makes one in which most pods ask for little, and for little more than room, so that most find several nodes, and nodes can be emptied.
func (m maker) cluster() (s api.Snap) {
	owners := []string{""}
	for i := range 2 + m.Intn(api.MaxNodes-1) {
		s.Nodes = append(s.Nodes, api.Node{Name: fmt.Sprintf("n%d", i), Cap: m.caps(), Labels: m.labels("host", "zone"), Cordon: m.Intn(9) == 0, Lost: m.Intn(9) == 0})
		if m.Intn(5) == 0 {
			s.Nodes[i].Taints = m.labels("gpu")
		}
	}
	for i := range m.Intn(4) {
		o := api.Owner{Name: fmt.Sprintf("o%d", i), Min: m.Intn(4), Single: m.Intn(3) == 0}
		if m.Intn(3) == 0 {
			o.Topo, o.Skew = m.one("host", "rack", "zone", "zone"), 1+m.Intn(2)
		}
		s.Owners, owners = append(s.Owners, o), append(owners, o.Name)
	}
	for i := range 1 + m.Intn(14) {
		s.Pods = append(s.Pods, api.Pod{
			Name: fmt.Sprintf("p%02d", i), Owner: m.one(owners...), Req: m.reqs(), Labels: m.labels("app", "tier"),
			Where: m.terms(8, "host", "zone"), Bears: m.bears(), With: m.near(), Apart: m.near(),
		})
	}
	return s
}

// caps makes a row of cpu and memory, and at times of more.
func (m maker) caps() (v api.Vec) {
	for kind := range 2 + m.Intn(2) {
		v[kind] = []int{20, 50, 60, 80, 80, 100, 100, 200}[m.Intn(8)]
	}
	return v
}

// reqs makes a row, at times of nothing.
func (m maker) reqs() (v api.Vec) {
	v[api.Cpu], v[api.Mem] = m.Intn(1+m.Intn(40)), m.Intn(1+m.Intn(40))
	if m.Intn(8) == 0 {
		v[api.Disk] = m.Intn(30)
	}
	return v
}

func (m maker) labels(keys ...string) (l []api.Label) {
	for _, key := range keys {
		if m.Intn(5) > 0 {
			l = append(l, api.Label{Key: key, Value: m.one("x", "y", "z")})
		}
	}
	return l
}

// terms makes one, or, the greater odds are, the oftener none.
func (m maker) terms(odds int, keys ...string) []api.Term {
	if m.Intn(odds) > 0 {
		return nil
	}
	term := api.Term{Kind: 1 + m.Intn(4), Key: m.one(keys...)}
	if term.Kind == api.TermIs || term.Kind == api.TermNot {
		term.Value = m.one("x", "y", "z")
	}
	return []api.Term{term}
}

func (m maker) bears() (l []api.Label) {
	if m.is() {
		l = append(l, api.Label{Key: "gpu", Value: m.one("*", "x", "y")})
	}
	return l
}

func (m maker) near() api.Near {
	if m.Intn(6) > 0 {
		return api.Near{}
	}
	return api.Near{Topo: m.one("host", "rack", "zone", "zone"), Terms: m.terms(1, "app", "tier")}
}

// placement favours some nodes, so that some are fuller than others, and leaves some without pods at times.
func (m maker) placement(s api.Snap) []int {
	var free []int
	for node, n := range s.Nodes {
		if !n.Lost {
			free = append(free, node)
		}
	}
	m.Shuffle(len(free), func(i, j int) { free[i], free[j] = free[j], free[i] })
	free = append(free[:len(free)-m.Intn(len(free)/3+1)], wait)
	p := make([]int, len(s.Pods))
	for pod := range p {
		p[pod] = free[min(m.Intn(len(free)), m.Intn(len(free)))]
	}
	return p
}

// safe makes a placement that is safe: it binds most pods one behind the other, each where it may be, and then lets owners ask for no more pods than are placed.
func (m maker) safe(s api.Snap) []int {
	p := slices.Repeat([]int{wait}, len(s.Pods))
	for _, pod := range m.Perm(len(p)) {
		if ways := admit.Ways(s, p, pod); len(ways) > 0 && m.Intn(8) > 0 {
			p[pod] = ways[m.Intn(len(ways))]
		}
	}
	for owner := range s.Owners {
		s.Owners[owner].Min = min(s.Owners[owner].Min, place.Placed(s, p, owner))
	}
	return p
}

// policy makes one that drains few nodes, at times none, and whose bounds let several nodes be low, and few high.
func (m maker) policy() (g api.Goal) {
	for kind := range g.High {
		if m.Intn(6) > 0 {
			g.High[kind] = 400 + m.Intn(601)
			g.Low[kind] = m.Intn(g.High[kind] + 1)
		}
	}
	for i := range m.Intn(2) * api.MaxNodes {
		if m.Intn(6) == 0 {
			g.Drain = append(g.Drain, fmt.Sprintf("n%d", i))
		}
	}
	g.On = m.Intn(api.OnAll+1) | m.Intn(2)*api.OnEmpty
	g.MaxMoves = []int{0, 1, 2, 3, 4, 5, 6, 9, 12, api.MaxMoves, api.MaxMoves}[m.Intn(11)]
	g.Tries, g.Rollback = m.Intn(api.MaxTries+1), m.is() // they change nothing
	return g
}
