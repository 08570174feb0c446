package repack_test

import (
	"maps"
	"slices"
	"testing"

	"drayage/api"
	"drayage/detect"
	"drayage/fit"
	"drayage/heat"
	"drayage/place"
	"drayage/repack"
	"drayage/safe"
)

// moved answers a copy in which one pod is elsewhere.
func moved(p []int, pod, node int) []int {
	q := slices.Clone(p)
	q[pod] = node
	return q
}

// choicesOf lists a pod's choices by the chapter's words.
func choicesOf(s api.Snap, p []int, g api.Goal, pod int) (l []int) {
	for _, node := range fit.Rank(s, moved(p, pod, wait), pod) {
		worse, _ := safe.Worse(s, p, moved(p, pod, node))
		if node != p[pod] && !slices.Contains(g.Drain, s.Nodes[node].Name) && len(worse) == 0 {
			l = append(l, node)
		}
	}
	return l
}

// coolOf lists, by the chapter's words, those of a pod's choices where it does not make high.
func coolOf(s api.Snap, p []int, g api.Goal, pod int) []int {
	return slices.DeleteFunc(choicesOf(s, p, g, pod), func(node int) bool {
		return slices.Contains(heat.High(s, moved(p, pod, node), g), node)
	})
}

// tale is a target as the chapter's words tell it.
type tale struct {
	q       []int
	stays   []api.Wrong
	gone    map[int]int // how often each of the pods has gone that have
	emptied []int
	counts  map[string]int // how often what is of note was so
}

// taleOf tells it from the beginning to the end.
func taleOf(s api.Snap, p []int, g api.Goal) tale {
	x := tale{q: p, gone: map[int]int{}, counts: map[string]int{}}
	wrong := detect.Pods(s, p, g)
	for _, w := range wrong {
		if w.Why != 7 {
			x.letGo(s, g, w)
		}
	}
	for node := range s.Nodes {
		low := slices.DeleteFunc(slices.Clone(wrong), func(w api.Wrong) bool { return w.Why != 7 || w.Node != node })
		if len(low) > 0 {
			x.letEmpty(s, g, node, low)
		}
	}
	for _, times := range x.gone {
		if times > 1 {
			x.counts["gone twice"]++
		}
	}
	return x
}

// letGo is the first part of the words, of one pod.
func (x *tale) letGo(s api.Snap, g api.Goal, w api.Wrong) {
	choices := choicesOf(s, x.q, g, w.Pod)
	if w.Why == 6 {
		cool := coolOf(s, x.q, g, w.Pod)
		if len(choices) > len(cool) {
			x.counts["would make high"]++
		}
		choices = cool
	}
	switch {
	case len(x.gone) == g.MaxMoves:
		x.counts["MaxMoves"]++
		x.stays = append(x.stays, w)
	case w.Why == 6 && !slices.Contains(heat.High(s, x.q, g), w.Node):
		x.counts["no high node"]++
	case len(choices) == 0:
		x.counts["no choice"]++
		x.stays = append(x.stays, w)
	default:
		x.counts["gone"]++
		x.q, x.gone[w.Pod] = moved(x.q, w.Pod, choices[0]), 1
	}
}

// letEmpty is the second part, of one node, whose pods that are to go by the reason 7 are low.
func (x *tale) letEmpty(s api.Snap, g api.Goal, node int, low []api.Wrong) {
	if !slices.Contains(heat.Low(s, x.q, g), node) {
		x.counts["no low node"]++
		return
	}
	q, gone, all := x.q, maps.Clone(x.gone), true
	for _, pod := range fit.Order(s, heat.Pods(s, q, node)) {
		choices := slices.DeleteFunc(coolOf(s, q, g, pod), func(to int) bool { return len(heat.Pods(s, q, to)) == 0 })
		if len(choices) == 0 {
			all = false
			break
		}
		q = moved(q, pod, choices[0])
		gone[pod]++
	}
	switch {
	case !all:
		x.counts["can't be emptied"]++
		x.stays = append(x.stays, low...)
	case len(gone) > g.MaxMoves:
		x.counts["too many to empty"]++
		x.stays = append(x.stays, low...)
	default:
		x.counts["emptied"]++
		x.q, x.gone, x.emptied = q, gone, append(x.emptied, node)
	}
}

// TestAgainstWords (P15.2, P15.3): of clusters made at random, the target, who stays, and the wishes are what the chapter's words say.
func TestAgainstWords(t *testing.T) {
	counts := map[string]int{}
	eachCluster(t, 1000, func(_ maker, s api.Snap, p []int, g api.Goal) {
		x := taleOf(s, p, g)
		checkTarget(t, s, p, g, x.q, x.stays...)
		for what, n := range x.counts {
			counts[what] += n
		}
	})
	for what, least := range map[string]int{
		"gone": 500, "MaxMoves": 500, "no high node": 100, "no choice": 500, "would make high": 100, "gone twice": 3,
		"no low node": 30, "can't be emptied": 100, "too many to empty": 20, "emptied": 50,
	} {
		if counts[what] < least {
			t.Errorf("only %d times: %s", counts[what], what)
		}
	}
}

// TestChoicesWords (P15.1): of clusters made at random, a pod's choices are what the chapter's words say.
func TestChoicesWords(t *testing.T) {
	several, worse := 0, 0
	eachCluster(t, 300, func(_ maker, s api.Snap, p []int, g api.Goal) {
		for pod, node := range p {
			if node == wait {
				checkChoices(t, s, p, g, pod)
				continue
			}
			l := choicesOf(s, p, g, pod)
			checkChoices(t, s, p, g, pod, l...)
			if len(l) > 1 {
				several++
			}
			for _, to := range fit.Rank(s, moved(p, pod, wait), pod) {
				if l, _ := safe.Worse(s, p, moved(p, pod, to)); len(l) > 0 {
					worse++
				}
			}
		}
	})
	if several < 300 || worse < 20 {
		t.Errorf("only %d pods have several choices, and %d ways make anything worse", several, worse)
	}
}

// TestNoWorse (P15.5, W1): nothing is worse in the target; of a safe placement it is safe.
func TestNoWorse(t *testing.T) {
	elsewhere, kept := 0, 0
	eachCluster(t, 500, func(m maker, s api.Snap, p []int, g api.Goal) {
		q, _, e := repack.Target(s, p, g)
		if l, _ := safe.Worse(s, p, q); len(l) > 0 || e != api.OK {
			t.Errorf("in %v is worse than in %v: %v, %d", q, p, l, e)
		}
		elsewhere += len(place.Moves(p, q))
		p = m.safe(s)
		if is, _ := safe.Safe(s, p); !is {
			t.Errorf("%v is not safe", p)
		}
		q, _, e = repack.Target(s, p, g)
		if is, _ := safe.Safe(s, q); !is || e != api.OK {
			t.Errorf("%v is safe, %v is not: %d", p, q, e)
		}
		kept += len(place.Moves(p, q))
	})
	if elsewhere < 500 || kept < 200 {
		t.Errorf("only %d pods are elsewhere, and %d of safe placements", elsewhere, kept)
	}
}

// TestWhereTo (P15.5): no more than MaxMoves pods are elsewhere, none of them on a node that is drained, cordoned or lost, none waits.
func TestWhereTo(t *testing.T) {
	elsewhere, most := 0, 0
	eachCluster(t, 1000, func(_ maker, s api.Snap, p []int, g api.Goal) {
		moves, e := repack.Wishes(s, p, g)
		if len(moves) > g.MaxMoves || e != api.OK {
			t.Errorf("more than %d: %v, %d", g.MaxMoves, moves, e)
		}
		if len(moves) > 0 && len(moves) == g.MaxMoves {
			most++
		}
		for _, x := range moves {
			elsewhere++
			if x.To == wait {
				t.Errorf("%v waits", x)
				continue
			}
			if n := s.Nodes[x.To]; n.Cordon || n.Lost || slices.Contains(g.Drain, n.Name) {
				t.Errorf("%v goes to %v", x, n)
			}
		}
	})
	if elsewhere < 500 || most < 100 {
		t.Errorf("only %d pods are elsewhere, and %d times just MaxMoves", elsewhere, most)
	}
}

// TestStay (P15.6): a pod that is not to go, and is on no low node, stays where it is; so does one that waits. Those told to stay are to go, each told once, as it is.
func TestStay(t *testing.T) {
	fine, waiting, told := 0, 0, 0
	eachCluster(t, 1000, func(_ maker, s api.Snap, p []int, g api.Goal) {
		q, stays, _ := repack.Target(s, p, g)
		low, wrong := heat.Low(s, p, g), detect.Pods(s, p, g)
		for pod, node := range p {
			isToGo := slices.ContainsFunc(wrong, func(w api.Wrong) bool { return w.Pod == pod })
			if isToGo || slices.Contains(low, node) {
				continue
			}
			if q[pod] != node {
				t.Errorf("pod %d goes from %d to %d", pod, node, q[pod])
			}
			if fine++; node == wait {
				waiting++
			}
		}
		for i, w := range stays {
			if told++; !slices.Contains(wrong, w) || slices.Contains(stays[:i], w) {
				t.Errorf("of %v stay %v", wrong, stays)
			}
		}
	})
	if fine < 500 || waiting < 200 || told < 500 {
		t.Errorf("only %d are not to go, %d wait, %d are told to stay", fine, waiting, told)
	}
}

// TestEmptied (P15.7): a node that is emptied has no pod; no node that had none has one by that.
func TestEmptied(t *testing.T) {
	emptied, idle := 0, 0
	eachCluster(t, 700, func(_ maker, s api.Snap, p []int, g api.Goal) {
		q, _, _ := repack.Target(s, p, g)
		for _, node := range taleOf(s, p, g).emptied {
			if emptied++; slices.Contains(q, node) {
				t.Errorf("%d is emptied, and has pods in %v", node, q)
			}
		}
		g.On, g.Drain, g.High = api.OnEmpty, nil, [2]int{1000, 1000}
		if slices.ContainsFunc(detect.Pods(s, p, g), func(w api.Wrong) bool { return w.Why != api.WhyLow }) {
			return // those that are to go by another reason may go to a node that had no pod
		}
		q, _, _ = repack.Target(s, p, g)
		for pod, node := range p {
			if q[pod] != node && slices.Contains(q, node) {
				t.Errorf("pod %d went, and %d has pods still in %v", pod, node, q)
			}
		}
		for _, node := range heat.Idle(s, p) {
			if idle++; slices.Contains(q, node) {
				t.Errorf("%d had no pod, and has one in %v", node, q)
			}
		}
	})
	if emptied < 50 || idle < 100 {
		t.Errorf("only %d nodes are emptied, and %d had no pods", emptied, idle)
	}
}
