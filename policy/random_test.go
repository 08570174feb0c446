package policy_test

import (
	"fmt"
	"math/rand"
	"slices"
	"testing"

	"drayage/api"
	"drayage/policy"
)

// maker makes policies that may be, always the same ones.
type maker struct{ *rand.Rand }

// eachPolicy goes through so many policies that may be.
func eachPolicy(t *testing.T, count int, f func(g api.Goal)) {
	t.Helper()
	m := maker{rand.New(rand.NewSource(6))}
	for range count {
		g := m.policy()
		if e := policy.Check(g); e != api.OK {
			t.Fatalf("%v may not be: %d", g, e)
		}
		f(g)
	}
}

func (m maker) is() bool { return m.Intn(2) == 0 }

func (m maker) policy() (g api.Goal) {
	for i := range g.Low {
		if m.is() {
			g.High[i] = m.Intn(1001)
		}
		if m.is() {
			g.Low[i] = m.Intn(g.High[i] + 1)
		}
	}
	if m.is() {
		g.On = m.Intn(api.OnAll + 1)
	}
	if m.is() {
		g.Drain = m.names()
	}
	if m.is() {
		g.MaxMoves = m.Intn(49)
	}
	if m.is() {
		g.Tries = m.Intn(9)
	}
	g.Rollback = m.is()
	return g
}

func (m maker) names() (l []string) {
	all := []string{"on", "drain", "low", "rollback", "a", "a-", "a0", letters15}
	for i := range m.Intn(9) {
		name := all[i]
		if m.is() {
			name = fmt.Sprintf("n-%d", m.Intn(1000))
		}
		if !slices.Contains(l, name) {
			l = append(l, name)
		}
	}
	slices.Sort(l)
	return l
}
