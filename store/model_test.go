package store_test

import (
	"fmt"
	"slices"
	"testing"

	"drayage/api"
	"drayage/place"
	"drayage/snap"
	"drayage/store"
)

// call is one that may change a store: its name, and what it is handed.
type call struct {
	name      string
	pod, node int
}

// doOn makes the call.
func (c call) doOn(x *store.Store) api.Errno {
	switch c.name {
	case "evict":
		return x.Evict(c.pod)
	case "bind":
		return x.Bind(c.pod, c.node)
	case "cordon", "uncordon":
		return x.Cordon(c.node, c.name == "cordon")
	case "lose":
		return x.Lose(c.node)
	}
	return x.Gone(c.pod)
}

// model is what the chapter's words say of a store: the cluster without a placement, where each pod is, and which are gone.
type model struct {
	s    api.Snap
	p    []int
	gone []bool
}

func modelOf(s api.Snap) *model {
	return &model{snap.Copy(s), snap.Placement(s), make([]bool, len(s.Pods))}
}

// do changes the model as the words of P11.1 and P11.2 say, and tells the error.
func (m *model) do(c call) api.Errno {
	isPod, isNode := 0 <= c.pod && c.pod < len(m.p), 0 <= c.node && c.node < len(m.s.Nodes)
	asksPod := c.name == "evict" || c.name == "bind" || c.name == "gone"
	asksNode := c.name != "evict" && c.name != "gone"
	if asksPod && !isPod || asksNode && !isNode {
		return api.ErrRange
	}
	if asksNode && m.s.Nodes[c.node].Lost {
		return api.ErrState
	}
	switch c.name {
	case "evict":
		if m.p[c.pod] == wait {
			return api.ErrState
		}
		m.p[c.pod] = wait
	case "bind":
		if m.p[c.pod] != wait || m.gone[c.pod] {
			return api.ErrState
		}
		m.p[c.pod] = c.node
	case "cordon", "uncordon":
		m.s.Nodes[c.node].Cordon = c.name == "cordon"
	case "lose":
		m.s.Nodes[c.node].Lost = true
		for pod, node := range m.p {
			if node == c.node {
				m.p[pod] = wait
			}
		}
	case "gone":
		if m.gone[c.pod] {
			return api.ErrState
		}
		m.p[c.pod], m.gone[c.pod] = wait, true
	}
	return api.OK
}

// used adds up what each node's pods ask for.
func (m *model) used() []api.Vec {
	used := make([]api.Vec, len(m.s.Nodes))
	for pod, node := range m.p {
		for kind, n := range m.s.Pods[pod].Req {
			if node != wait {
				used[node][kind] += n
			}
		}
	}
	return used
}

// counts counts each owner's pods that do not wait.
func (m *model) counts() []int {
	counts := make([]int, len(m.s.Owners))
	for pod, node := range m.p {
		for owner, o := range m.s.Owners {
			if node != wait && m.s.Pods[pod].Owner == o.Name {
				counts[owner]++
			}
		}
	}
	return counts
}

// tell says in words all that a store of that size answers.
func tell(x *store.Store, s api.Snap) string {
	text := fmt.Sprintf("%v\n%v\n", x.Placement(), x.Snap())
	for pod := range s.Pods {
		text += fmt.Sprint(x.IsGone(pod), " ")
	}
	for node := range s.Nodes {
		text += fmt.Sprint(x.Used(node), " ")
	}
	for owner := range s.Owners {
		text += fmt.Sprint(x.Count(owner), " ")
	}
	return text
}

// checkModel asks that all that a store answers is what the words say.
func checkModel(t *testing.T, x *store.Store, m *model) {
	t.Helper()
	checkPlaced(t, x, m.p...)
	checkGone(t, x, m.gone...)
	checkUsed(t, x, m.used()...)
	checkCounts(t, x, m.counts()...)
	want, e := snap.With(m.s, m.p)
	if e != api.OK {
		t.Fatalf("the model of %v may not be at %v: %d", m.s, m.p, e)
	}
	checkSnap(t, x, want)
}

// checkFollows (P11.5): what Snap tells may be, and what is counted is what place tells of it.
func checkFollows(t *testing.T, x *store.Store) {
	t.Helper()
	s, p := x.Snap(), x.Placement()
	if e := place.Check(s, p); e != api.OK {
		t.Errorf("Snap tells %v, Placement %v, which may not be: %d", s, p, e)
	}
	if q := snap.Placement(s); !slices.Equal(p, q) {
		t.Errorf("Placement tells %v, Snap %v", p, q)
	}
	for node := range s.Nodes {
		if u, want := x.Used(node), place.Used(s, p, node); u != want {
			t.Errorf("Used(%d): %v, place.Used: %v", node, u, want)
		}
	}
	for owner := range s.Owners {
		if n, want := x.Count(owner), place.Placed(s, p, owner); n != want {
			t.Errorf("Count(%d): %d, place.Placed: %d", owner, n, want)
		}
	}
}

// checkCall makes a call on a store and on its model, and asks that they are alike behind it; and, of an evict and a bind, that place.Apply makes the same (P11.6), and of an error, that nothing has changed (P11.4).
func checkCall(t *testing.T, x *store.Store, m *model, c call) api.Errno {
	t.Helper()
	s, p, before := x.Snap(), x.Placement(), tell(x, m.s)
	e, want := c.doOn(x), m.do(c)
	if e != want {
		t.Fatalf("%v of %v, %v: %d, not %d", c, s, p, e, want)
	}
	checkModel(t, x, m)
	if after := tell(x, m.s); e != api.OK && after != before {
		t.Fatalf("%v has the error %d, and changed %s to %s", c, e, before, after)
	}
	if c.name == "evict" || c.name == "bind" {
		checkApplied(t, s, p, c, e, x.Placement(), m)
	}
	return e
}

// checkApplied (P11.6) holds what an evict or a bind has made of a placement against place.Apply, which knows of no pods that are gone.
func checkApplied(t *testing.T, s api.Snap, p []int, c call, e api.Errno, made []int, m *model) {
	t.Helper()
	step := api.Step{Kind: api.StepEvict, Pod: c.pod}
	if c.name == "bind" {
		step = api.Step{Kind: api.StepBind, Pod: c.pod, Node: c.node}
	}
	q, want := place.Apply(s, p, step)
	if want == api.OK && c.name == "bind" && m.gone[c.pod] {
		q, want = nil, api.ErrState
	}
	if want != api.OK {
		q = p
	}
	if e != want || !slices.Equal(made, q) {
		t.Errorf("%v of %v makes %v, %d; place.Apply makes %v, %d", c, p, made, e, q, want)
	}
}

// calls lists all of a cluster, and as many that ask for what is not there.
func calls(s api.Snap) (l []call) {
	for pod := -1; pod <= len(s.Pods); pod++ {
		l = append(l, call{name: "evict", pod: pod}, call{name: "gone", pod: pod})
		for node := -1; node <= len(s.Nodes); node++ {
			l = append(l, call{"bind", pod, node})
		}
	}
	for node := -1; node <= len(s.Nodes); node++ {
		l = append(l, call{name: "cordon", node: node}, call{name: "uncordon", node: node}, call{name: "lose", node: node})
	}
	return l
}

// small makes a cluster of two nodes and two pods of one owner.
func small() api.Snap {
	s := example()
	s.Owners = []api.Owner{{Name: "o", Min: 1}}
	s.Pods[0].Owner, s.Pods[1].Owner, s.Pods[1].Req = "o", "o", api.Vec{0, 3, 0, 4}
	return s
}

// TestAllStates (P11.1 to P11.6): of a small cluster, all calls in each state that can be.
func TestAllStates(t *testing.T) {
	s := small()
	seen := map[string]bool{}
	for rows := [][]call{nil}; len(rows) > 0; {
		row := rows[0]
		rows = rows[1:]
		for _, c := range calls(s) {
			x, m := live(t, s), modelOf(s)
			for _, ahead := range row {
				ahead.doOn(x)
				m.do(ahead)
			}
			checkCall(t, x, m, c)
			if state := fmt.Sprint(m); !seen[state] {
				seen[state] = true
				checkFollows(t, x)
				rows = append(rows, append(slices.Clip(row), c))
			}
		}
		if t.Failed() {
			t.Fatalf("behind %v", row)
		}
	}
	// A pod is gone, waits, or is on a node that is not lost: 16 ways with both nodes, 9 without either one, 4 without both; and each node is cordoned or not.
	if want := 4 * (16 + 9 + 9 + 4); len(seen) != want {
		t.Errorf("%d states, not %d", len(seen), want)
	}
}

// TestShortRows (P11.1 to P11.6): of that cluster, all rows of three calls of what there is, so that no answer hangs on how a state was come by.
func TestShortRows(t *testing.T) {
	s := small()
	l := slices.DeleteFunc(calls(s), func(c call) bool { return c.pod < 0 || c.pod > 1 || c.node < 0 || c.node > 1 })
	for _, a := range l {
		for _, b := range l {
			for _, c := range l {
				x, m := live(t, s), modelOf(s)
				for _, one := range []call{a, b, c} {
					if e, want := one.doOn(x), m.do(one); e != want {
						t.Fatalf("%v of %v: %d, not %d", one, []call{a, b, c}, e, want)
					}
				}
				checkModel(t, x, m)
			}
		}
	}
}
