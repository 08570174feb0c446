package place_test

import (
	"slices"
	"testing"

	"drayage/api"
	"drayage/place"
)

// asked is what those pods ask for, together, that are so.
func asked(s api.Snap, isSo func(pod int) bool) (v api.Vec) {
	for pod, x := range s.Pods {
		if isSo(pod) {
			for kind := range v {
				v[kind] += x.Req[kind]
			}
		}
	}
	return v
}

// counted is how many of an owner's pods are on nodes that are so.
func counted(s api.Snap, p []int, owner int, isSo func(node int) bool) (n int) {
	for pod, node := range p {
		if s.Pods[pod].Owner == s.Owners[owner].Name && node != wait && isSo(node) {
			n++
		}
	}
	return n
}

// domain is a node's, by the words of P7.2; empty, if it has none.
func domain(s api.Snap, node int, key string) (value string) {
	for _, l := range s.Nodes[node].Labels {
		if l.Key == key && !s.Nodes[node].Lost {
			value = l.Value
		}
	}
	return value
}

// TestAgainstWords (P7.1 to P7.3): of clusters made at random, what is told is what the chapter's words say.
func TestAgainstWords(t *testing.T) {
	eachCluster(t, 300, func(s api.Snap, p, _ []int) {
		for node := range s.Nodes {
			want := asked(s, func(pod int) bool { return p[pod] == node })
			if u := place.Used(s, p, node); u != want {
				t.Fatalf("Used(%v, %v, %d): %v, not %v", s, p, node, u, want)
			}
		}
		for _, key := range []string{"host", "rack", "zone", "none", ""} {
			var all []string
			for node := range s.Nodes {
				value := domain(s, node, key)
				checkDomain(t, s, node, key, value)
				if value != "" {
					all = append(all, value)
				}
			}
			slices.Sort(all)
			checkDomains(t, s, key, slices.Compact(all)...)
		}
		for owner, o := range s.Owners {
			var counts, spread []int
			for node := range s.Nodes {
				counts = append(counts, counted(s, p, owner, func(on int) bool { return on == node }))
			}
			for _, value := range place.Domains(s, o.Topo) {
				spread = append(spread, counted(s, p, owner, func(on int) bool { return domain(s, on, o.Topo) == value }))
			}
			checkOwner(t, s, p, owner, counts, spread, counted(s, p, owner, func(int) bool { return true }))
		}
	})
}

// TestSums (P7.7): nodes together have what placed pods ask for; an owner's nodes have what of it is placed, its domains no more.
func TestSums(t *testing.T) {
	eachCluster(t, 300, func(s api.Snap, p, _ []int) {
		var all api.Vec
		for node := range s.Nodes {
			for kind, n := range place.Used(s, p, node) {
				all[kind] += n
			}
		}
		if want := asked(s, func(pod int) bool { return p[pod] != wait }); all != want {
			t.Fatalf("all nodes of %v, %v have %v, not %v", s, p, all, want)
		}
		for owner := range s.Owners {
			onNodes, inDomains := sum(place.Counts(s, p, owner)), sum(place.Spread(s, p, owner))
			if placed := place.Placed(s, p, owner); onNodes != placed || inDomains > placed {
				t.Fatalf("the owner %d of %v, %v has %d on nodes and %d in domains, and %d are placed", owner, s, p, onNodes, inDomains, placed)
			}
		}
	})
}

func sum(l []int) (n int) {
	for _, x := range l {
		n += x
	}
	return n
}

// TestAllSteps (P7.4, P7.8): of clusters made at random all steps, and a little more, against the chapter's words; what was taken off is put on again.
func TestAllSteps(t *testing.T) {
	eachCluster(t, 100, func(s api.Snap, p, _ []int) {
		for kind := -1; kind <= 4; kind++ {
			for pod := -1; pod <= len(s.Pods); pod++ {
				for node := -1; node <= len(s.Nodes); node++ {
					checkStep(t, s, p, api.Step{Kind: kind, Pod: pod, Node: node})
				}
			}
		}
	})
}

func checkStep(t *testing.T, s api.Snap, p []int, x api.Step) {
	t.Helper()
	e, to := api.OK, wait
	isPod, isNode := x.Pod >= 0 && x.Pod < len(s.Pods), x.Node >= 0 && x.Node < len(s.Nodes)
	switch {
	case x.Kind != evict && x.Kind != bind:
		e = api.ErrArg
	case !isPod, x.Kind == evict && x.Node != 0, x.Kind == bind && !isNode:
		e = api.ErrRange
	case x.Kind == evict && p[x.Pod] == wait, x.Kind == bind && (p[x.Pod] != wait || s.Nodes[x.Node].Lost):
		e = api.ErrState
	case x.Kind == bind:
		to = x.Node
	}
	if e != api.OK {
		checkApply(t, s, p, x, nil, e)
		return
	}
	q := slices.Clone(p)
	q[x.Pod] = to
	checkApply(t, s, p, x, q, api.OK)
	checkIs(t, "what a step makes", s, q, api.OK)
	back := api.Step{Kind: evict, Pod: x.Pod}
	if x.Kind == evict {
		back = api.Step{Kind: bind, Pod: x.Pod, Node: p[x.Pod]}
	}
	checkApply(t, s, q, back, p, api.OK)
}

// TestMovesLead (P7.8): moves, done one behind the other, make of one placement the other one.
func TestMovesLead(t *testing.T) {
	eachCluster(t, 300, func(s api.Snap, p, q []int) {
		now := p
		for _, move := range place.Moves(p, q) {
			if now[move.Pod] != wait {
				now = done(t, s, now, api.Step{Kind: evict, Pod: move.Pod})
			}
			if move.To != wait {
				now = done(t, s, now, api.Step{Kind: bind, Pod: move.Pod, Node: move.To})
			}
		}
		if !slices.Equal(now, q) {
			t.Fatalf("the moves of %v to %v lead to %v", p, q, now)
		}
		checkMoves(t, now, q)
	})
}

func done(t *testing.T, s api.Snap, p []int, x api.Step) []int {
	t.Helper()
	q, e := place.Apply(s, p, x)
	if e != api.OK {
		t.Fatalf("Apply(%v, %v, %v): %d", s, p, x, e)
	}
	return q
}
