package detect_test

import (
	"slices"
	"testing"

	"drayage/api"
	"drayage/clause"
	"drayage/detect"
	"drayage/heat"
	"drayage/safe"
)

// label answers a node's value for a key, and whether it has it.
func label(n api.Node, key string) (value string, is bool) {
	for _, l := range n.Labels {
		if l.Key == key {
			return l.Value, true
		}
	}
	return "", false
}

// isCrowded tells by the chapter's words whether a pod is in a domain that has as many of its owner as any, if the owner's ClauseSpread is broken.
func isCrowded(s api.Snap, p []int, pod int) bool {
	for owner, o := range s.Owners {
		if o.Name != s.Pods[pod].Owner {
			continue
		}
		if by, _ := clause.Of(s, p, api.ClauseSpread, owner, 0); by == 0 {
			return false
		}
		count := func(domain string) (n int) {
			for other, node := range p {
				if node != wait && s.Pods[other].Owner == o.Name {
					if value, is := label(s.Nodes[node], o.Topo); is && value == domain {
						n++
					}
				}
			}
			return n
		}
		domain, is := label(s.Nodes[p[pod]], o.Topo)
		return is && !slices.ContainsFunc([]string{"x", "y", "z"}, func(other string) bool { return count(other) > count(domain) })
	}
	return false
}

// whyOf reckons by the chapter's words why a pod is to go.
func whyOf(s api.Snap, p []int, g api.Goal, pod int) int {
	if p[pod] == wait {
		return 0
	}
	isBroken := func(kind int) bool {
		by, _ := clause.Of(s, p, kind, pod, 0)
		return by > 0
	}
	isOn := func(bit int) bool { return g.On/bit%2 == 1 }
	switch {
	case slices.Contains(g.Drain, s.Nodes[p[pod]].Name):
		return 1
	case isBroken(api.ClauseWhere) || isOn(4) && isBroken(api.ClauseTaint):
		return 2
	case isOn(2) && (isBroken(api.ClauseWith) || isBroken(api.ClauseApart)):
		return 3
	case isOn(1) && isBroken(api.ClauseDouble):
		return 4
	case isOn(8) && isCrowded(s, p, pod):
		return 5
	case slices.Contains(heat.High(s, p, g), p[pod]):
		return 6
	case isOn(16) && slices.Contains(heat.Low(s, p, g), p[pod]):
		return 7
	}
	return 0
}

// TestAgainstWords (P13.1): of clusters made at random, what is told is what the chapter's words say.
func TestAgainstWords(t *testing.T) {
	var times [api.LastWhy + 1]int
	fine := 0
	eachCluster(t, 1500, func(_ maker, s api.Snap, p []int, g api.Goal) {
		want := make([]int, len(p))
		for pod := range p {
			want[pod] = whyOf(s, p, g, pod)
			times[want[pod]]++
		}
		checkWhy(t, s, p, g, want...)
		if len(p) > 5 && detect.Fine(s, p, g) {
			fine++
		}
	})
	if slices.Min(times[:]) < 150 || fine < 100 {
		t.Errorf("%v pods are to go by each reason, and only %d placements are fine", times, fine)
	}
}

// TestOnce (P13.3): each pod is told once, where it is.
func TestOnce(t *testing.T) {
	eachCluster(t, 1000, func(_ maker, s api.Snap, p []int, g api.Goal) {
		told := make([]int, len(p))
		for _, w := range detect.Pods(s, p, g) {
			if told[w.Pod]++; told[w.Pod] > 1 || w.Node != p[w.Pod] || w.Node == wait {
				t.Errorf("pod %d is told %d times, as on node %d", w.Pod, told[w.Pod], w.Node)
			}
		}
	})
}

// TestMoreOn (P13.3): what is on more in a policy lets no pod that is to go stay.
func TestMoreOn(t *testing.T) {
	more := 0
	eachCluster(t, 300, func(_ maker, s api.Snap, p []int, g api.Goal) {
		for _, bit := range bits {
			less := g
			less.On, g.On = g.On&^bit, g.On|bit
			ahead, behind := detect.Pods(s, p, less), detect.Pods(s, p, g)
			for _, w := range ahead {
				if why := detect.Why(s, p, g, w.Pod); why == 0 || why > w.Why {
					t.Errorf("pod %d is to go by %d, and with %d on by %d", w.Pod, w.Why, bit, why)
				}
			}
			if more += len(behind) - len(ahead); len(behind) < len(ahead) {
				t.Errorf("%v are to go, and with %d on %v", ahead, bit, behind)
			}
		}
	})
	if more < 400 {
		t.Errorf("only %d pods more are to go", more)
	}
}

// TestSafe (P13.4): of a safe placement none is to go, if the policy says nothing of Drain, High and OnEmpty.
func TestSafe(t *testing.T) {
	placed, drained := 0, 0
	eachCluster(t, 600, func(m maker, s api.Snap, _ []int, g api.Goal) {
		p := m.safe(s)
		if is, _ := safe.Safe(s, p); !is {
			t.Errorf("%v is not safe", p)
		}
		for bits := range api.OnAll + 1 {
			if l := detect.Pods(s, p, on(bits)); bits&api.OnEmpty == 0 && (len(l) > 0 || !detect.Fine(s, p, on(bits))) {
				t.Errorf("of the safe %v are to go %v, with %d on", p, l, bits)
			}
		}
		for _, node := range p {
			if node != wait {
				placed++
			}
		}
		drained += len(detect.Pods(s, p, api.Goal{Drain: g.Drain}))
	})
	if placed < 1000 || drained < 100 {
		t.Errorf("only %d pods are placed, %d drained", placed, drained)
	}
}
