package fit_test

import (
	"slices"
	"testing"

	"drayage/admit"
	"drayage/api"
	"drayage/fit"
	"drayage/safe"
)

// bound answers a copy in which one pod is on that node.
func bound(p []int, pod, node int) []int {
	q := slices.Clone(p)
	q[pod] = node
	return q
}

// leftOf reckons by the chapter's words what is left on a node.
func leftOf(s api.Snap, p []int, node int) (sum int) {
	for kind, has := range s.Nodes[node].Cap {
		asked := 0
		for pod, on := range p {
			if on == node {
				asked += s.Pods[pod].Req[kind]
			}
		}
		if has > 0 && asked < has {
			sum += (has - asked) * 1000 / has
		}
	}
	return sum
}

// rankOf takes, by the chapter's words, one behind the other of a pod's ways the first one on which least is left.
func rankOf(s api.Snap, p []int, pod int) (ranked []int) {
	ways := admit.Ways(s, p, pod)
	for len(ways) > 0 {
		best := 0
		for i, node := range ways {
			if leftOf(s, bound(p, pod, node), node) < leftOf(s, bound(p, pod, ways[best]), ways[best]) {
				best = i
			}
		}
		ranked = append(ranked, ways[best])
		ways = slices.Delete(ways, best, best+1)
	}
	return ranked
}

// sizeOf reckons a pod's size by the chapter's words.
func sizeOf(s api.Snap, pod int) (size int) {
	for kind, asked := range s.Pods[pod].Req {
		has := 0
		for _, n := range s.Nodes {
			has = max(has, n.Cap[kind])
		}
		if has > 0 {
			size = max(size, 1000*asked/has)
		}
	}
	return size
}

// orderOf takes, by the chapter's words, one behind the other of pods the first one that is greatest.
func orderOf(s api.Snap, pods []int) (order []int) {
	for {
		best := wait
		for pod := range s.Pods {
			if slices.Contains(pods, pod) && !slices.Contains(order, pod) && (best == wait || sizeOf(s, pod) > sizeOf(s, best)) {
				best = pod
			}
		}
		if best == wait {
			return order
		}
		order = append(order, best)
	}
}

// packOf binds pods by the chapter's words.
func packOf(s api.Snap, p, pods []int) (q, waits []int) {
	q = slices.Clone(p)
	for _, pod := range orderOf(s, pods) {
		if l := rankOf(s, q, pod); len(l) > 0 {
			q[pod] = l[0]
		}
	}
	for pod := range q {
		if q[pod] == wait && slices.Contains(pods, pod) {
			waits = append(waits, pod)
		}
	}
	return q, waits
}

// TestAgainstWords (P14.1, P14.2): of clusters made at random, what is told is what the chapter's words say.
func TestAgainstWords(t *testing.T) {
	several, ties, sizes := 0, 0, 0
	eachCluster(t, 300, func(m maker, s api.Snap, p []int) {
		for node := range s.Nodes {
			checkLeft(t, s, p, node, leftOf(s, p, node))
		}
		for pod := range s.Pods {
			l := rankOf(s, p, pod)
			checkRank(t, s, p, pod, l...)
			if len(l) > 1 {
				several++
				if leftOf(s, bound(p, pod, l[0]), l[0]) == leftOf(s, bound(p, pod, l[1]), l[1]) {
					ties++
				}
			}
		}
		for range 5 {
			pods := m.pods(s)
			order := orderOf(s, pods)
			checkOrder(t, s, pods, order...)
			if len(order) > 2 && sizeOf(s, order[0]) > sizeOf(s, order[1]) && sizeOf(s, order[1]) > 0 {
				sizes++
			}
		}
	})
	if several < 200 || ties < 20 || sizes < 200 {
		t.Errorf("only %d pods find several nodes, %d of them several that are best; %d orders go by sizes", several, ties, sizes)
	}
}

// TestPackWords (P14.3): of clusters made at random, too.
func TestPackWords(t *testing.T) {
	binds, waiting := 0, 0
	eachCluster(t, 200, func(m maker, s api.Snap, p []int) {
		pods := m.pods(s)
		q, waits := packOf(s, p, pods)
		checkPack(t, s, p, pods, q, waits...)
		waiting += len(waits)
		for pod := range q {
			if p[pod] != q[pod] {
				binds++
			}
		}
	})
	if binds < 200 || waiting < 100 {
		t.Errorf("only %d pods are bound, and %d wait", binds, waiting)
	}
}

// TestPackMay (P14.5): each pod that Pack binds might be bound there when it was, and where that leads nothing is worse; pods that were not handed in stay.
func TestPackMay(t *testing.T) {
	binds, others, unsafe := 0, 0, 0
	eachCluster(t, 200, func(m maker, s api.Snap, p []int) {
		pods := m.pods(s)
		q, waits, e := fit.Pack(s, p, pods)
		if e != api.OK {
			t.Fatalf("Pack: %d", e)
		}
		now := slices.Clone(p)
		for _, pod := range fit.Order(s, pods) {
			if p[pod] != wait {
				continue
			}
			if q[pod] == wait {
				if l := admit.Ways(s, now, pod); len(l) > 0 || !slices.Contains(waits, pod) {
					t.Errorf("pod %d waits in %v, though it might be bound on %v", pod, q, l)
				}
				continue
			}
			if !admit.May(s, now, bind(pod, q[pod])) {
				t.Errorf("pod %d is bound on %d in %v, though that may not be", pod, q[pod], now)
			}
			now = bound(now, pod, q[pod])
			binds++
		}
		if !slices.Equal(now, q) {
			t.Errorf("Pack leads to %v, its steps to %v", q, now)
		}
		if l, e := safe.Worse(s, p, q); len(l) > 0 || e != api.OK {
			t.Errorf("%v is worse in %v than in %v: %d", l, q, p, e)
		}
		for pod := range p {
			if slices.Contains(pods, pod) {
				continue
			}
			if others++; q[pod] != p[pod] {
				t.Errorf("pod %d was not handed in, and went from %d to %d", pod, p[pod], q[pod])
			}
		}
		if is, _ := safe.Safe(s, p); !is {
			unsafe++
		}
	})
	if binds < 200 || others < 200 || unsafe < 20 {
		t.Errorf("only %d pods are bound, %d not handed in, %d placements not safe", binds, others, unsafe)
	}
}

// TestBestLeavesLeast (P14.6): on no other node on which the pod may be bound is less left than on the best one.
func TestBestLeavesLeast(t *testing.T) {
	less := 0
	eachCluster(t, 300, func(_ maker, s api.Snap, p []int) {
		for pod := range s.Pods {
			best, is := fit.Best(s, p, pod)
			for node := range s.Nodes {
				if !admit.May(s, p, bind(pod, node)) {
					continue
				}
				if !is {
					t.Errorf("pod %d has no best node, though it may be bound on %d", pod, node)
					continue
				}
				least, left := fit.Left(s, bound(p, pod, best), best), fit.Left(s, bound(p, pod, node), node)
				if left < least {
					t.Errorf("the best node of pod %d is %d, with %d left; on %d %d are left", pod, best, least, node, left)
				}
				if left > least {
					less++
				}
			}
		}
	})
	if less < 300 {
		t.Errorf("on only %d other nodes more is left", less)
	}
}
